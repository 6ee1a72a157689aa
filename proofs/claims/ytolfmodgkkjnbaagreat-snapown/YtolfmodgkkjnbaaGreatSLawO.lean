/- Walk of SnapOwn. -/
import Derived.Test.YtolfmodgkkjnbaaGreatSLawH
namespace Go.Proofs.YtolfmodgkkjnbaaGreat
open Go.RowKit

theorem own_sees {V : Vw} (h : V.own ≠ 0) : vsees V V.own = true := by
  unfold vsees vown
  simp [h]
theorem own_vis {V : Vw} {k v : ByteArray} (h : V.own ≠ 0) : vvis V ⟨V.own, 0, false, k, v⟩ = true := by
  unfold vvis vbeg vend
  simp [own_sees h]
theorem own_not {V : Vw} {x : Int} {f : Bool} {k v : ByteArray} (h : V.own ≠ 0) : vvis V ⟨x, V.own, f, k, v⟩ = false := by
  unfold vvis vend
  simp [own_sees h, h]
theorem own_newer {V : Vw} {k v : ByteArray} (h : V.own ≠ 0) : vnewer V ⟨V.own, 0, false, k, v⟩ = false := by
  unfold vnewer vnews
  simp [own_sees h]
set_option maxRecDepth 100000 in
set_option maxHeartbeats 3200000 in
theorem own_law (w : World) (m fr : Int) (BO : Nat) (aO : Option Addr) (n cap : Nat) (X : Nat → Int) (S : Nat → Nat) (V : Vw) (q : Lo) (T : Tp) (hm : I64 m) (hfr : I64 fr) (hS : Sds w BO aO n X S) (h : Sn w V q) (ht : I64 T.xmin ∧ I64 T.xmax) :
    Calls Tryz.prog 4 #[.agg #[.int .i64 m, .int .i64 fr, .slice aO n cap], .agg #[.int .i64 V.m, .int .i64 V.next, .slice q.aA V.act.length q.cA, .int .i64 V.own, .slice q.aR V.run.length q.cR, .int .i64 V.pg.lsn, .int .i64 V.pg.kind, .int .i64 V.pg.level, .int .i64 V.pg.right, .string V.pg.high, .slice q.aP V.pg.items.length q.cP], .agg #[.int .i64 T.xmin, .int .i64 T.xmax, .bool T.fz, .string T.key, .string T.val]] w fun e w' => e = .returned (.bool true) ∧ Only (fun _ => False) w w' := by
  have HT1 := hide ht
  clear ht
  have HPB := hide (PB.new w (.int .i64 m) (.int .i64 fr) (.slice aO n cap))
  have HRB := hide (VB.new (w.alloc (.cells #[.int .i64 m, .int .i64 fr, .slice aO n cap] 24)) (.int .i64 V.m) (.int .i64 V.next) (.slice q.aA V.act.length q.cA) (.int .i64 V.own) (.slice q.aR V.run.length q.cR) (.int .i64 V.pg.lsn) (.int .i64 V.pg.kind) (.int .i64 V.pg.level) (.int .i64 V.pg.right) (.string V.pg.high) (.slice q.aP V.pg.items.length q.cP))
  have HPB := hide (HPB.out.more (onlyA _ (.cells #[.int .i64 V.m, .int .i64 V.next, .slice q.aA V.act.length q.cA, .int .i64 V.own, .slice q.aR V.run.length q.cR, .int .i64 V.pg.lsn, .int .i64 V.pg.kind, .int .i64 V.pg.level, .int .i64 V.pg.right, .string V.pg.high, .slice q.aP V.pg.items.length q.cP] 32)))
  have HTB := hide (TB.new ((w.alloc (.cells #[.int .i64 m, .int .i64 fr, .slice aO n cap] 24)).alloc (.cells #[.int .i64 V.m, .int .i64 V.next, .slice q.aA V.act.length q.cA, .int .i64 V.own, .slice q.aR V.run.length q.cR, .int .i64 V.pg.lsn, .int .i64 V.pg.kind, .int .i64 V.pg.level, .int .i64 V.pg.right, .string V.pg.high, .slice q.aP V.pg.items.length q.cP] 32)) (.int .i64 T.xmin) (.int .i64 T.xmax) (.bool T.fz) (.string T.key) (.string T.val))
  have HPB := hide (HPB.out.more (onlyA _ (.cells #[.int .i64 T.xmin, .int .i64 T.xmax, .bool T.fz, .string T.key, .string T.val] 34)))
  have HRB := hide (HRB.out.more (onlyA _ (.cells #[.int .i64 T.xmin, .int .i64 T.xmax, .bool T.fz, .string T.key, .string T.val] 34)))
  have HO := hide (o2 (o2 (onlyA w (.cells #[.int .i64 m, .int .i64 fr, .slice aO n cap] 24)) (onlyA _ (.cells #[.int .i64 V.m, .int .i64 V.next, .slice q.aA V.act.length q.cA, .int .i64 V.own, .slice q.aR V.run.length q.cR, .int .i64 V.pg.lsn, .int .i64 V.pg.kind, .int .i64 V.pg.level, .int .i64 V.pg.right, .string V.pg.high, .slice q.aP V.pg.items.length q.cP] 32))) (onlyA _ (.cells #[.int .i64 T.xmin, .int .i64 T.xmax, .bool T.fz, .string T.key, .string T.val] 34)))
  simp only [World.size_alloc] at HPB HRB HTB
  have HSD := hide hS
  have HN0 := hide h
  have HM := hide (fun W hs hn => made_any W m fr BO aO n cap X S V q hm hfr hs hn)
  clear hS h hm hfr
  go_enter Tryz.func4, Tryz.ntmps4
  go_upto_region 1 with fail
  obtain ⟨W0, hW0⟩ : ∃ W, ((w.alloc (.cells #[.int .i64 m, .int .i64 fr, .slice aO n cap] 24)).alloc (.cells #[.int .i64 V.m, .int .i64 V.next, .slice q.aA V.act.length q.cA, .int .i64 V.own, .slice q.aR V.run.length q.cR, .int .i64 V.pg.lsn, .int .i64 V.pg.kind, .int .i64 V.pg.level, .int .i64 V.pg.right, .string V.pg.high, .slice q.aP V.pg.items.length q.cP] 32)).alloc (.cells #[.int .i64 T.xmin, .int .i64 T.xmax, .bool T.fz, .string T.key, .string T.val] 34) = W := ⟨_, rfl⟩
  have HLT0 : Hid (w.heap.size + 1 + 1 < W0.heap.size) := by unfold Hid; rw [← hW0]; simp
  rw [hW0] at HPB HRB HTB HO ⊢
  clear hW0
  obtain ⟨pbc0, pbc1, pbc2, pbf0, pbf1, pbf2, pbl⟩ := HPB.out
  clear pbf0 pbf1 pbf2
  obtain ⟨rbc0, rbc1, rbc2, rbc3, rbc4, rbc5, rbc6, rbc7, rbc8, rbc9, rbc10, rbf0, rbf1, rbf2, rbf3, rbf4, rbf5, rbf6, rbf7, rbf8, rbf9, rbf10, rbl⟩ := HRB.out
  clear rbf0 rbf1 rbf2 rbf3 rbf4 rbf5 rbf6 rbf7 rbf8 rbf9 rbf10
  obtain ⟨tbc0, tbc1, tbc2, tbc3, tbc4, tbf0, tbf1, tbf2, tbf3, tbf4, tbl⟩ := HTB.out
  clear tbf0 tbf1 tbf2 tbf3 tbf4
  go_wp2_with fail
  refine (HM.out _ (HSD.out.more HO.out) (HN0.out.more HO.out)).mono ?_
  rintro e w1 ⟨V1, q1, ok, hq⟩
  obtain ⟨rfl, hsn, ho⟩ := hq
  clear pbc0 pbc1 pbc2 pbl
  clear rbc0 rbc1 rbc2 rbc3 rbc4 rbc5 rbc6 rbc7 rbc8 rbc9 rbc10 rbl
  clear tbc0 tbc1 tbc2 tbc3 tbc4 tbl
  have HPB := hide (HPB.out.more ho)
  have HRB := hide (HRB.out.more ho)
  have HTB := hide (HTB.out.more ho)
  have HO := hide (o2 HO.out ho)
  have HN := hide hsn
  have HB := hide (VB.new w1 (.int .i64 V1.m) (.int .i64 V1.next) (.slice q1.aA V1.act.length q1.cA) (.int .i64 V1.own) (.slice q1.aR V1.run.length q1.cR) (.int .i64 V1.pg.lsn) (.int .i64 V1.pg.kind) (.int .i64 V1.pg.level) (.int .i64 V1.pg.right) (.string V1.pg.high) (.slice q1.aP V1.pg.items.length q1.cP))
  have hoA := onlyA w1 (.cells #[.int .i64 V1.m, .int .i64 V1.next, .slice q1.aA V1.act.length q1.cA, .int .i64 V1.own, .slice q1.aR V1.run.length q1.cR, .int .i64 V1.pg.lsn, .int .i64 V1.pg.kind, .int .i64 V1.pg.level, .int .i64 V1.pg.right, .string V1.pg.high, .slice q1.aP V1.pg.items.length q1.cP] 32)
  have HPB := hide (HPB.out.more hoA)
  have HRB := hide (HRB.out.more hoA)
  have HTB := hide (HTB.out.more hoA)
  have HO := hide (o2 HO.out hoA)
  have HN := hide (HN.out.more hoA)
  have HTL : Hid (w.heap.size + 1 + 1 < w1.heap.size) := Nat.lt_of_lt_of_le HLT0.out ho.size
  clear ho hoA hsn HM HSD HN0
  go_upto_region 2 with fail
  obtain ⟨W1, hW1⟩ : ∃ W, w1.alloc (.cells #[.int .i64 V1.m, .int .i64 V1.next, .slice q1.aA V1.act.length q1.cA, .int .i64 V1.own, .slice q1.aR V1.run.length q1.cR, .int .i64 V1.pg.lsn, .int .i64 V1.pg.kind, .int .i64 V1.pg.level, .int .i64 V1.pg.right, .string V1.pg.high, .slice q1.aP V1.pg.items.length q1.cP] 32) = W := ⟨_, rfl⟩
  obtain ⟨bv, hbv⟩ : ∃ b, w1.heap.size = b := ⟨_, rfl⟩
  rw [hW1] at HPB HRB HTB HB HO HN ⊢
  rw [hbv] at HB ⊢
  have HBV : Hid (w.heap.size + 3 ≤ bv) := by unfold Hid; rw [← hbv]; have := HTL.out; omega
  clear hW1 hbv
  clear HPB HRB
  by_cases h0 : V1.own = 0
  · have g1 : (V1.own == 0) = true := by simp [h0]
    clear h0
    obtain ⟨tbc0, tbc1, tbc2, tbc3, tbc4, tbf0, tbf1, tbf2, tbf3, tbf4, tbl⟩ := HTB.out
    clear tbf0 tbf1 tbf2 tbf3 tbf4
    obtain ⟨vbc0, vbc1, vbc2, vbc3, vbc4, vbc5, vbc6, vbc7, vbc8, vbc9, vbc10, vbf0, vbf1, vbf2, vbf3, vbf4, vbf5, vbf6, vbf7, vbf8, vbf9, vbf10, vbl⟩ := HB.out
    clear vbf0 vbf1 vbf2 vbf3 vbf4 vbf5 vbf6 vbf7 vbf8 vbf9 vbf10
    go_wp2_with fail
    refine (sawake_any _).mono ?_
    rintro e w2 ⟨rfl, ho⟩
    clear tbc0 tbc1 tbc2 tbc3 tbc4 tbl
    clear vbc0 vbc1 vbc2 vbc3 vbc4 vbc5 vbc6 vbc7 vbc8 vbc9 vbc10 vbl
    have HO := hide (o2 HO.out ho)
    clear ho
    go_wp2_with fail
    go_ret
    exact ⟨rfl, HO.out⟩
  · have g1 : (V1.own == 0) = false := by simp [h0]
    have HOW := hide HN.out.own
    have C0 := hide (fun W (h : Sn W V1 q1) => sees_any W V1 q1 V1.own h HOW.out)
    have C1 := hide (fun W (h : Sn W V1 q1) => visible_any W V1 q1 ⟨V1.own, 0, false, T.key, T.val⟩ h ⟨HOW.out, i64 (n := 0) (by omega) (by omega)⟩)
    have C2 := hide (fun W (h : Sn W V1 q1) => visible_any W V1 q1 ⟨T.xmin, V1.own, T.fz, T.key, T.val⟩ h ⟨HT1.out.1, HOW.out⟩)
    have C3 := hide (fun W (h : Sn W V1 q1) => newer_any W V1 q1 ⟨V1.own, 0, false, T.key, T.val⟩ h ⟨HOW.out, i64 (n := 0) (by omega) (by omega)⟩)
    simp only [own_sees h0, own_vis h0, own_not h0, own_newer h0] at C0 C1 C2 C3
    clear h0
    have HLT : Hid (w.heap.size + 1 + 1 < W1.heap.size ∧ bv < W1.heap.size ∧ w.heap.size ≤ W1.heap.size) := ⟨HTB.out.lt, HB.out.lt, HO.out.size⟩
    have HOLD := hide (Sn.old HN.out)
    obtain ⟨tbc0, tbc1, tbc2, tbc3, tbc4, tbf0, tbf1, tbf2, tbf3, tbf4, tbl⟩ := HTB.out
    clear tbf0 tbf1 tbf2 tbf3 tbf4
    obtain ⟨vbc0, vbc1, vbc2, vbc3, vbc4, vbc5, vbc6, vbc7, vbc8, vbc9, vbc10, vbf0, vbf1, vbf2, vbf3, vbf4, vbf5, vbf6, vbf7, vbf8, vbf9, vbf10, vbl⟩ := HB.out
    clear vbf0 vbf1 vbf2 vbf3 vbf4 vbf5 vbf6 vbf7 vbf8 vbf9 vbf10
    go_upto_region 5 with fail
    clear tbc0 tbc1 tbc2 tbc3 tbc4 tbl
    clear vbc0 vbc1 vbc2 vbc3 vbc4 vbc5 vbc6 vbc7 vbc8 vbc9 vbc10 vbl
    have HNB := hide (TB.new W1 (.int .i64 T.xmin) (.int .i64 T.xmax) (.bool T.fz) (.string T.key) (.string T.val))
    have hoA := onlyA W1 (.cells #[.int .i64 T.xmin, .int .i64 T.xmax, .bool T.fz, .string T.key, .string T.val] 34)
    have HTB := hide (HTB.out.more hoA)
    have HB := hide (HB.out.more hoA)
    have HO := hide (o2 HO.out hoA)
    have HN := hide (HN.out.more hoA)
    obtain ⟨W2, hW2⟩ : ∃ W, W1.alloc (.cells #[.int .i64 T.xmin, .int .i64 T.xmax, .bool T.fz, .string T.key, .string T.val] 34) = W := ⟨_, rfl⟩
    obtain ⟨bn, hbn⟩ : ∃ b, W1.heap.size = b := ⟨_, rfl⟩
    rw [hW2] at HNB HTB HB HO HN ⊢
    rw [hbn] at HNB ⊢
    rw [hbn] at HLT HOLD
    clear hW2 hbn hoA
    obtain ⟨tbc0, tbc1, tbc2, tbc3, tbc4, tbf0, tbf1, tbf2, tbf3, tbf4, tbl⟩ := HTB.out
    clear tbf0 tbf1 tbf2 tbf3 tbf4
    obtain ⟨vbc0, vbc1, vbc2, vbc3, vbc4, vbc5, vbc6, vbc7, vbc8, vbc9, vbc10, vbf0, vbf1, vbf2, vbf3, vbf4, vbf5, vbf6, vbf7, vbf8, vbf9, vbf10, vbl⟩ := HB.out
    clear vbf0 vbf1 vbf2 vbf3 vbf4 vbf5 vbf6 vbf7 vbf8 vbf9 vbf10
    obtain ⟨nbc0, nbc1, nbc2, nbc3, nbc4, nbf0, nbf1, nbf2, nbf3, nbf4, nbl⟩ := HNB.out
    go_upto_region 8 with fail
    clear tbc0 tbc1 tbc2 tbc3 tbc4 tbl
    clear vbc0 vbc1 vbc2 vbc3 vbc4 vbc5 vbc6 vbc7 vbc8 vbc9 vbc10 vbl
    clear nbc0 nbc1 nbc2 nbc3 nbc4 nbf0 nbf1 nbf2 nbf3 nbf4 nbl
    have HX : Hid (TB (((W2.setCell ⟨bn, 2, none⟩ (.bool false)).setCell ⟨bn, 0, none⟩ (.int .i64 V1.own)).setCell ⟨bn, 1, none⟩ (.int .i64 0)) bn (.int .i64 V1.own) (.int .i64 0) (.bool false) (.string T.key) (.string T.val)) := by unfold Hid; simpa using (((HNB.out).setC (k := 2) (.bool false)).setC (k := 0) (.int .i64 V1.own)).setC (k := 1) (.int .i64 0)
    have hoS := ((Only.setCell (S := fun k => k = bn) W2 ⟨bn, 2, none⟩ (.bool false) rfl).trans (Only.setCell (S := fun k => k = bn) (W2.setCell ⟨bn, 2, none⟩ (.bool false)) ⟨bn, 0, none⟩ (.int .i64 V1.own) rfl) (fun _ _ h => h)).trans (Only.setCell (S := fun k => k = bn) ((W2.setCell ⟨bn, 2, none⟩ (.bool false)).setCell ⟨bn, 0, none⟩ (.int .i64 V1.own)) ⟨bn, 1, none⟩ (.int .i64 0) rfl) (fun _ _ h => h)
    have HZ : Hid (Only (fun _ => False) w (((W2.setCell ⟨bn, 2, none⟩ (.bool false)).setCell ⟨bn, 0, none⟩ (.int .i64 V1.own)).setCell ⟨bn, 1, none⟩ (.int .i64 0))) := HO.out.trans hoS (fun i hi e => by have := HLT.out; omega)
    have HTB := hide (HTB.out.kept hoS (by have := HLT.out; omega))
    have HB := hide (HB.out.kept hoS (by have := HLT.out; omega))
    have HN : Hid (Sn (((W2.setCell ⟨bn, 2, none⟩ (.bool false)).setCell ⟨bn, 0, none⟩ (.int .i64 V1.own)).setCell ⟨bn, 1, none⟩ (.int .i64 0)) V1 q1) := HN.out.keptAt hoS HOLD.out
    obtain ⟨W3, hW2⟩ : ∃ W, ((W2.setCell ⟨bn, 2, none⟩ (.bool false)).setCell ⟨bn, 0, none⟩ (.int .i64 V1.own)).setCell ⟨bn, 1, none⟩ (.int .i64 0) = W := ⟨_, rfl⟩
    rw [hW2] at HX HZ HN HTB HB ⊢
    clear hW2 hoS HO
    have HO := HZ
    have HNB := HX
    clear HX HZ
    have HLT : Hid (w.heap.size + 1 + 1 < W3.heap.size ∧ bv < W3.heap.size ∧ bn < W3.heap.size ∧ w.heap.size ≤ W3.heap.size) := ⟨HTB.out.lt, HB.out.lt, HNB.out.lt, HO.out.size⟩
    have HOLD := hide (Sn.old HN.out)
    obtain ⟨tbc0, tbc1, tbc2, tbc3, tbc4, tbf0, tbf1, tbf2, tbf3, tbf4, tbl⟩ := HTB.out
    clear tbf0 tbf1 tbf2 tbf3 tbf4
    obtain ⟨vbc0, vbc1, vbc2, vbc3, vbc4, vbc5, vbc6, vbc7, vbc8, vbc9, vbc10, vbf0, vbf1, vbf2, vbf3, vbf4, vbf5, vbf6, vbf7, vbf8, vbf9, vbf10, vbl⟩ := HB.out
    clear vbf0 vbf1 vbf2 vbf3 vbf4 vbf5 vbf6 vbf7 vbf8 vbf9 vbf10
    obtain ⟨nbc0, nbc1, nbc2, nbc3, nbc4, nbf0, nbf1, nbf2, nbf3, nbf4, nbl⟩ := HNB.out
    clear nbf0 nbf1 nbf2 nbf3 nbf4
    go_upto_region 9 with fail
    clear tbc0 tbc1 tbc2 tbc3 tbc4 tbl
    clear vbc0 vbc1 vbc2 vbc3 vbc4 vbc5 vbc6 vbc7 vbc8 vbc9 vbc10 vbl
    clear nbc0 nbc1 nbc2 nbc3 nbc4 nbl
    have HEB := hide (TB.new W3 (.int .i64 T.xmin) (.int .i64 T.xmax) (.bool T.fz) (.string T.key) (.string T.val))
    have hoA := onlyA W3 (.cells #[.int .i64 T.xmin, .int .i64 T.xmax, .bool T.fz, .string T.key, .string T.val] 34)
    have HTB := hide (HTB.out.more hoA)
    have HB := hide (HB.out.more hoA)
    have HNB := hide (HNB.out.more hoA)
    have HO := hide (o2 HO.out hoA)
    have HN := hide (HN.out.more hoA)
    obtain ⟨W4, hW2⟩ : ∃ W, W3.alloc (.cells #[.int .i64 T.xmin, .int .i64 T.xmax, .bool T.fz, .string T.key, .string T.val] 34) = W := ⟨_, rfl⟩
    obtain ⟨be, hbn⟩ : ∃ b, W3.heap.size = b := ⟨_, rfl⟩
    rw [hW2] at HEB HTB HB HNB HO HN ⊢
    rw [hbn] at HEB ⊢
    rw [hbn] at HLT HOLD
    clear hW2 hbn hoA
    obtain ⟨tbc0, tbc1, tbc2, tbc3, tbc4, tbf0, tbf1, tbf2, tbf3, tbf4, tbl⟩ := HTB.out
    clear tbf0 tbf1 tbf2 tbf3 tbf4
    obtain ⟨vbc0, vbc1, vbc2, vbc3, vbc4, vbc5, vbc6, vbc7, vbc8, vbc9, vbc10, vbf0, vbf1, vbf2, vbf3, vbf4, vbf5, vbf6, vbf7, vbf8, vbf9, vbf10, vbl⟩ := HB.out
    clear vbf0 vbf1 vbf2 vbf3 vbf4 vbf5 vbf6 vbf7 vbf8 vbf9 vbf10
    obtain ⟨nbc0, nbc1, nbc2, nbc3, nbc4, nbf0, nbf1, nbf2, nbf3, nbf4, nbl⟩ := HNB.out
    clear nbf0 nbf1 nbf2 nbf3 nbf4
    obtain ⟨ebc0, ebc1, ebc2, ebc3, ebc4, ebf0, ebf1, ebf2, ebf3, ebf4, ebl⟩ := HEB.out
    go_upto_region 10 with fail
    clear tbc0 tbc1 tbc2 tbc3 tbc4 tbl
    clear vbc0 vbc1 vbc2 vbc3 vbc4 vbc5 vbc6 vbc7 vbc8 vbc9 vbc10 vbl
    clear nbc0 nbc1 nbc2 nbc3 nbc4 nbl
    clear ebc0 ebc1 ebc2 ebc3 ebc4 ebf0 ebf1 ebf2 ebf3 ebf4 ebl
    have HX : Hid (TB (W4.setCell ⟨be, 1, none⟩ (.int .i64 V1.own)) be (.int .i64 T.xmin) (.int .i64 V1.own) (.bool T.fz) (.string T.key) (.string T.val)) := by unfold Hid; simpa using (HEB.out).setC (k := 1) (.int .i64 V1.own)
    have hoS := Only.setCell (S := fun k => k = be) W4 ⟨be, 1, none⟩ (.int .i64 V1.own) rfl
    have HZ : Hid (Only (fun _ => False) w (W4.setCell ⟨be, 1, none⟩ (.int .i64 V1.own))) := HO.out.trans hoS (fun i hi e => by have := HLT.out; omega)
    have HTB := hide (HTB.out.kept hoS (by have := HLT.out; omega))
    have HB := hide (HB.out.kept hoS (by have := HLT.out; omega))
    have HNB := hide (HNB.out.kept hoS (by have := HLT.out; omega))
    have HN : Hid (Sn (W4.setCell ⟨be, 1, none⟩ (.int .i64 V1.own)) V1 q1) := HN.out.keptAt hoS HOLD.out
    obtain ⟨W5, hW2⟩ : ∃ W, W4.setCell ⟨be, 1, none⟩ (.int .i64 V1.own) = W := ⟨_, rfl⟩
    rw [hW2] at HX HZ HN HTB HB HNB ⊢
    clear hW2 hoS HO
    have HO := HZ
    have HEB := HX
    clear HX HZ
    clear HTB HLT
    obtain ⟨vbc0, vbc1, vbc2, vbc3, vbc4, vbc5, vbc6, vbc7, vbc8, vbc9, vbc10, vbf0, vbf1, vbf2, vbf3, vbf4, vbf5, vbf6, vbf7, vbf8, vbf9, vbf10, vbl⟩ := HB.out
    clear vbf0 vbf1 vbf2 vbf3 vbf4 vbf5 vbf6 vbf7 vbf8 vbf9 vbf10
    obtain ⟨nbc0, nbc1, nbc2, nbc3, nbc4, nbf0, nbf1, nbf2, nbf3, nbf4, nbl⟩ := HNB.out
    clear nbf0 nbf1 nbf2 nbf3 nbf4
    obtain ⟨ebc0, ebc1, ebc2, ebc3, ebc4, ebf0, ebf1, ebf2, ebf3, ebf4, ebl⟩ := HEB.out
    clear ebf0 ebf1 ebf2 ebf3 ebf4
    go_wp2_with fail
    refine (C0.out _ HN.out).mono ?_
    rintro e w2 ⟨rfl, ho⟩
    clear vbc0 vbc1 vbc2 vbc3 vbc4 vbc5 vbc6 vbc7 vbc8 vbc9 vbc10 vbl
    clear nbc0 nbc1 nbc2 nbc3 nbc4 nbl
    clear ebc0 ebc1 ebc2 ebc3 ebc4 ebl
    have HB := hide (HB.out.more ho)
    have HNB := hide (HNB.out.more ho)
    have HEB := hide (HEB.out.more ho)
    have HN := hide (HN.out.more ho)
    have HO := hide (o2 HO.out ho)
    clear ho
    obtain ⟨vbc0, vbc1, vbc2, vbc3, vbc4, vbc5, vbc6, vbc7, vbc8, vbc9, vbc10, vbf0, vbf1, vbf2, vbf3, vbf4, vbf5, vbf6, vbf7, vbf8, vbf9, vbf10, vbl⟩ := HB.out
    clear vbf0 vbf1 vbf2 vbf3 vbf4 vbf5 vbf6 vbf7 vbf8 vbf9 vbf10
    obtain ⟨nbc0, nbc1, nbc2, nbc3, nbc4, nbf0, nbf1, nbf2, nbf3, nbf4, nbl⟩ := HNB.out
    clear nbf0 nbf1 nbf2 nbf3 nbf4
    obtain ⟨ebc0, ebc1, ebc2, ebc3, ebc4, ebf0, ebf1, ebf2, ebf3, ebf4, ebl⟩ := HEB.out
    clear ebf0 ebf1 ebf2 ebf3 ebf4
    go_wp2_with fail
    refine (C1.out _ HN.out).mono ?_
    rintro e w3 ⟨rfl, ho⟩
    clear vbc0 vbc1 vbc2 vbc3 vbc4 vbc5 vbc6 vbc7 vbc8 vbc9 vbc10 vbl
    clear nbc0 nbc1 nbc2 nbc3 nbc4 nbl
    clear ebc0 ebc1 ebc2 ebc3 ebc4 ebl
    have HB := hide (HB.out.more ho)
    have HNB := hide (HNB.out.more ho)
    have HEB := hide (HEB.out.more ho)
    have HN := hide (HN.out.more ho)
    have HO := hide (o2 HO.out ho)
    clear ho
    obtain ⟨vbc0, vbc1, vbc2, vbc3, vbc4, vbc5, vbc6, vbc7, vbc8, vbc9, vbc10, vbf0, vbf1, vbf2, vbf3, vbf4, vbf5, vbf6, vbf7, vbf8, vbf9, vbf10, vbl⟩ := HB.out
    clear vbf0 vbf1 vbf2 vbf3 vbf4 vbf5 vbf6 vbf7 vbf8 vbf9 vbf10
    obtain ⟨nbc0, nbc1, nbc2, nbc3, nbc4, nbf0, nbf1, nbf2, nbf3, nbf4, nbl⟩ := HNB.out
    clear nbf0 nbf1 nbf2 nbf3 nbf4
    obtain ⟨ebc0, ebc1, ebc2, ebc3, ebc4, ebf0, ebf1, ebf2, ebf3, ebf4, ebl⟩ := HEB.out
    clear ebf0 ebf1 ebf2 ebf3 ebf4
    go_wp2_with fail
    refine (C2.out _ HN.out).mono ?_
    rintro e w4 ⟨rfl, ho⟩
    clear vbc0 vbc1 vbc2 vbc3 vbc4 vbc5 vbc6 vbc7 vbc8 vbc9 vbc10 vbl
    clear nbc0 nbc1 nbc2 nbc3 nbc4 nbl
    clear ebc0 ebc1 ebc2 ebc3 ebc4 ebl
    have HB := hide (HB.out.more ho)
    have HNB := hide (HNB.out.more ho)
    have HEB := hide (HEB.out.more ho)
    have HN := hide (HN.out.more ho)
    have HO := hide (o2 HO.out ho)
    clear ho
    obtain ⟨vbc0, vbc1, vbc2, vbc3, vbc4, vbc5, vbc6, vbc7, vbc8, vbc9, vbc10, vbf0, vbf1, vbf2, vbf3, vbf4, vbf5, vbf6, vbf7, vbf8, vbf9, vbf10, vbl⟩ := HB.out
    clear vbf0 vbf1 vbf2 vbf3 vbf4 vbf5 vbf6 vbf7 vbf8 vbf9 vbf10
    obtain ⟨nbc0, nbc1, nbc2, nbc3, nbc4, nbf0, nbf1, nbf2, nbf3, nbf4, nbl⟩ := HNB.out
    clear nbf0 nbf1 nbf2 nbf3 nbf4
    obtain ⟨ebc0, ebc1, ebc2, ebc3, ebc4, ebf0, ebf1, ebf2, ebf3, ebf4, ebl⟩ := HEB.out
    clear ebf0 ebf1 ebf2 ebf3 ebf4
    go_wp2_with fail
    refine (C3.out _ HN.out).mono ?_
    rintro e w5 ⟨rfl, ho⟩
    clear vbc0 vbc1 vbc2 vbc3 vbc4 vbc5 vbc6 vbc7 vbc8 vbc9 vbc10 vbl
    clear nbc0 nbc1 nbc2 nbc3 nbc4 nbl
    clear ebc0 ebc1 ebc2 ebc3 ebc4 ebl
    have HB := hide (HB.out.more ho)
    have HNB := hide (HNB.out.more ho)
    have HEB := hide (HEB.out.more ho)
    have HN := hide (HN.out.more ho)
    have HO := hide (o2 HO.out ho)
    clear ho
    obtain ⟨vbc0, vbc1, vbc2, vbc3, vbc4, vbc5, vbc6, vbc7, vbc8, vbc9, vbc10, vbf0, vbf1, vbf2, vbf3, vbf4, vbf5, vbf6, vbf7, vbf8, vbf9, vbf10, vbl⟩ := HB.out
    clear vbf0 vbf1 vbf2 vbf3 vbf4 vbf5 vbf6 vbf7 vbf8 vbf9 vbf10
    obtain ⟨nbc0, nbc1, nbc2, nbc3, nbc4, nbf0, nbf1, nbf2, nbf3, nbf4, nbl⟩ := HNB.out
    clear nbf0 nbf1 nbf2 nbf3 nbf4
    obtain ⟨ebc0, ebc1, ebc2, ebc3, ebc4, ebf0, ebf1, ebf2, ebf3, ebf4, ebl⟩ := HEB.out
    clear ebf0 ebf1 ebf2 ebf3 ebf4
    go_wp2_with fail
    refine (sawake_any _).mono ?_
    rintro e w6 ⟨rfl, ho⟩
    clear vbc0 vbc1 vbc2 vbc3 vbc4 vbc5 vbc6 vbc7 vbc8 vbc9 vbc10 vbl
    clear nbc0 nbc1 nbc2 nbc3 nbc4 nbl
    clear ebc0 ebc1 ebc2 ebc3 ebc4 ebl
    have HO := hide (o2 HO.out ho)
    clear ho
    go_wp2_with fail
    go_ret
    exact ⟨rfl, HO.out⟩
end Go.Proofs.YtolfmodgkkjnbaaGreat
