/- Walk of SnapLater. -/
import Derived.Test.YtolfmodgkkjnbaaGreatSLawH
namespace Go.Proofs.YtolfmodgkkjnbaaGreat
open Go.RowKit

theorem later_not {V : Vw} {x : Int} (h1 : x ≠ V.own) (h2 : x ∈ V.act ∨ xbef V.m x V.next = false) : vsees V x = false := by
  have g : (x == V.own) = false := by simp [h1]
  unfold vsees vown vdone
  rw [g, Bool.and_false, Bool.false_or]
  rcases h2 with h | h
  · simp [h]
  · simp [h]
theorem later_vis {V : Vw} {x : Int} (h1 : x ≠ V.own) (h2 : x ∈ V.act ∨ xbef V.m x V.next = false) : vvis V ⟨x, 0, false, ⟨#[107]⟩, ⟨#[]⟩⟩ = false := by
  unfold vvis vbeg
  simp [later_not h1 h2]
set_option maxRecDepth 100000 in
set_option maxHeartbeats 3200000 in
theorem later_law (w : World) (m fr : Int) (BO : Nat) (aO : Option Addr) (n cap : Nat) (X : Nat → Int) (S : Nat → Nat) (V : Vw) (q : Lo) (x : Int) (hm : I64 m) (hfr : I64 fr) (hS : Sds w BO aO n X S) (h : Sn w V q) (hx : I64 x) :
    Calls Tryz.prog 7 #[.agg #[.int .i64 m, .int .i64 fr, .slice aO n cap], .agg #[.int .i64 V.m, .int .i64 V.next, .slice q.aA V.act.length q.cA, .int .i64 V.own, .slice q.aR V.run.length q.cR, .int .i64 V.pg.lsn, .int .i64 V.pg.kind, .int .i64 V.pg.level, .int .i64 V.pg.right, .string V.pg.high, .slice q.aP V.pg.items.length q.cP], .int .i64 x] w fun e w' => e = .returned (.bool true) ∧ Only (fun _ => False) w w' := by
  have HX := hide hx
  clear hx
  have HPB := hide (PB.new w (.int .i64 m) (.int .i64 fr) (.slice aO n cap))
  have HRB := hide (VB.new (w.alloc (.cells #[.int .i64 m, .int .i64 fr, .slice aO n cap] 24)) (.int .i64 V.m) (.int .i64 V.next) (.slice q.aA V.act.length q.cA) (.int .i64 V.own) (.slice q.aR V.run.length q.cR) (.int .i64 V.pg.lsn) (.int .i64 V.pg.kind) (.int .i64 V.pg.level) (.int .i64 V.pg.right) (.string V.pg.high) (.slice q.aP V.pg.items.length q.cP))
  have HPB := hide (HPB.out.more (onlyA _ (.cells #[.int .i64 V.m, .int .i64 V.next, .slice q.aA V.act.length q.cA, .int .i64 V.own, .slice q.aR V.run.length q.cR, .int .i64 V.pg.lsn, .int .i64 V.pg.kind, .int .i64 V.pg.level, .int .i64 V.pg.right, .string V.pg.high, .slice q.aP V.pg.items.length q.cP] 32)))
  have HO := hide (o2 (onlyA w (.cells #[.int .i64 m, .int .i64 fr, .slice aO n cap] 24)) (onlyA _ (.cells #[.int .i64 V.m, .int .i64 V.next, .slice q.aA V.act.length q.cA, .int .i64 V.own, .slice q.aR V.run.length q.cR, .int .i64 V.pg.lsn, .int .i64 V.pg.kind, .int .i64 V.pg.level, .int .i64 V.pg.right, .string V.pg.high, .slice q.aP V.pg.items.length q.cP] 32)))
  simp only [World.size_alloc] at HPB HRB
  have HSD := hide hS
  have HN0 := hide h
  have HM := hide (fun W hs hn => made_any W m fr BO aO n cap X S V q hm hfr hs hn)
  clear hS h hm hfr
  go_enter Tryz.func7, Tryz.ntmps7
  go_upto_region 1 with fail
  obtain ⟨W0, hW0⟩ : ∃ W, (w.alloc (.cells #[.int .i64 m, .int .i64 fr, .slice aO n cap] 24)).alloc (.cells #[.int .i64 V.m, .int .i64 V.next, .slice q.aA V.act.length q.cA, .int .i64 V.own, .slice q.aR V.run.length q.cR, .int .i64 V.pg.lsn, .int .i64 V.pg.kind, .int .i64 V.pg.level, .int .i64 V.pg.right, .string V.pg.high, .slice q.aP V.pg.items.length q.cP] 32) = W := ⟨_, rfl⟩
  have HLT0 : Hid (w.heap.size + 1 < W0.heap.size) := by unfold Hid; rw [← hW0]; simp
  rw [hW0] at HPB HRB HO ⊢
  clear hW0
  obtain ⟨pbc0, pbc1, pbc2, pbf0, pbf1, pbf2, pbl⟩ := HPB.out
  clear pbf0 pbf1 pbf2
  obtain ⟨rbc0, rbc1, rbc2, rbc3, rbc4, rbc5, rbc6, rbc7, rbc8, rbc9, rbc10, rbf0, rbf1, rbf2, rbf3, rbf4, rbf5, rbf6, rbf7, rbf8, rbf9, rbf10, rbl⟩ := HRB.out
  clear rbf0 rbf1 rbf2 rbf3 rbf4 rbf5 rbf6 rbf7 rbf8 rbf9 rbf10
  go_wp2_with fail
  refine (HM.out _ (HSD.out.more HO.out) (HN0.out.more HO.out)).mono ?_
  rintro e w1 ⟨V1, q1, ok, hq⟩
  obtain ⟨rfl, hsn, ho⟩ := hq
  clear pbc0 pbc1 pbc2 pbl
  clear rbc0 rbc1 rbc2 rbc3 rbc4 rbc5 rbc6 rbc7 rbc8 rbc9 rbc10 rbl
  have HPB := hide (HPB.out.more ho)
  have HRB := hide (HRB.out.more ho)
  have HO := hide (o2 HO.out ho)
  have HN := hide hsn
  have HOLD0 : Hid (Sn.below V1 q1 w1.heap.size) := Sn.old hsn
  have HB := hide (VB.new w1 (.int .i64 V1.m) (.int .i64 V1.next) (.slice q1.aA V1.act.length q1.cA) (.int .i64 V1.own) (.slice q1.aR V1.run.length q1.cR) (.int .i64 V1.pg.lsn) (.int .i64 V1.pg.kind) (.int .i64 V1.pg.level) (.int .i64 V1.pg.right) (.string V1.pg.high) (.slice q1.aP V1.pg.items.length q1.cP))
  have hoA := onlyA w1 (.cells #[.int .i64 V1.m, .int .i64 V1.next, .slice q1.aA V1.act.length q1.cA, .int .i64 V1.own, .slice q1.aR V1.run.length q1.cR, .int .i64 V1.pg.lsn, .int .i64 V1.pg.kind, .int .i64 V1.pg.level, .int .i64 V1.pg.right, .string V1.pg.high, .slice q1.aP V1.pg.items.length q1.cP] 32)
  have HPB := hide (HPB.out.more hoA)
  have HRB := hide (HRB.out.more hoA)
  have HO := hide (o2 HO.out hoA)
  have HN := hide (HN.out.more hoA)
  have HTL : Hid (w.heap.size + 1 < w1.heap.size) := Nat.lt_of_lt_of_le HLT0.out ho.size
  clear ho hoA hsn HM HSD HN0
  go_upto_region 2 with fail
  obtain ⟨W1, hW1⟩ : ∃ W, w1.alloc (.cells #[.int .i64 V1.m, .int .i64 V1.next, .slice q1.aA V1.act.length q1.cA, .int .i64 V1.own, .slice q1.aR V1.run.length q1.cR, .int .i64 V1.pg.lsn, .int .i64 V1.pg.kind, .int .i64 V1.pg.level, .int .i64 V1.pg.right, .string V1.pg.high, .slice q1.aP V1.pg.items.length q1.cP] 32) = W := ⟨_, rfl⟩
  obtain ⟨bv, hbv⟩ : ∃ b, w1.heap.size = b := ⟨_, rfl⟩
  rw [hW1] at HPB HRB HB HO HN ⊢
  rw [hbv] at HB HOLD0 ⊢
  have HBV : Hid (w.heap.size + 2 ≤ bv) := by unfold Hid; rw [← hbv]; have := HTL.out; omega
  clear hW1 hbv
  clear HPB HRB
  have hlen := HN.out.act.len
  have HNA := hide HN.out.act
  go_wp2_with fail
  go_loop [9, 10] (fun t y => ∃ (j : Nat) (b : Bool), j ≤ V1.act.length ∧ y = .int .i64 (j : Int) ∧ t = .bool b ∧ Hid (b = true ↔ x ∈ V1.act.take j)) (fun _ y => V1.act.length - (intOf y).toNat)
  case atStart => exact ⟨0, false, by omega, rfl, rfl, by unfold Hid; simp⟩
  case round =>
    obtain ⟨j, b, hj, rfl, rfl, HQ⟩ := hrel
    by_cases hlt : j < V1.act.length
    · obtain ⟨oA, eA, hc⟩ := HNA.out.at_ (by omega)
      have k1 := hc j hlt
      obtain ⟨z, hz⟩ : ∃ z, V1.act[j] = z := ⟨_, rfl⟩
      have HT : Hid (V1.act.take (j + 1) = V1.act.take j ++ [z]) := by unfold Hid; rw [List.take_succ_eq_append_getElem hlt, hz]
      rw [hz] at k1
      clear hc hz
      have hjl : (j : Int) < (V1.act.length : Int) := by omega
      obtain ⟨vbc0, vbc1, vbc2, vbc3, vbc4, vbc5, vbc6, vbc7, vbc8, vbc9, vbc10, vbf0, vbf1, vbf2, vbf3, vbf4, vbf5, vbf6, vbf7, vbf8, vbf9, vbf10, vbl⟩ := HB.out
      clear vbf0 vbf1 vbf2 vbf3 vbf4 vbf5 vbf6 vbf7 vbf8 vbf9 vbf10
      rw [eA] at vbc2
      cases b with
      | true =>
        go_wp2_with fail
        go_round
        case rel => exact ⟨j + 1, true, by omega, by go_num, rfl, by unfold Hid; rw [HT.out]; simp [HQ.out.1 rfl]⟩
        case measure => simp [intOf]; omega
      | false =>
        have hno : x ∉ V1.act.take j := fun h => by have := HQ.out.2 h; cases this
        have HNO := hide hno
        clear hno
        by_cases he : z = x
        · have g : (z == x) = true := by simp [he]
          go_wp2_with fail
          go_round
          case rel => exact ⟨j + 1, true, by omega, by go_num, rfl, by unfold Hid; rw [HT.out]; simp [he]⟩
          case measure => simp [intOf]; omega
        · have g : (z == x) = false := by simp [he]
          go_wp2_with fail
          go_round
          case rel => exact ⟨j + 1, false, by omega, by go_num, rfl, by unfold Hid; rw [HT.out]; simp [HNO.out, Ne.symm he]⟩
          case measure => simp [intOf]; omega
    · have e : V1.act.take j = V1.act := List.take_of_length_le (by omega)
      rw [e] at HQ
      have HJ : Hid (¬ (j : Int) < (V1.act.length : Int)) := by unfold Hid; omega
      clear e HNA
      have hjn : ¬ (j : Int) < (V1.act.length : Int) := HJ.out
      have CB := hide (fun W (h : Sn W V1 q1) => quiet_only (xbefore_any V1.m x V1.next W h.m HX.out h.next))
      obtain ⟨bf, hbf⟩ : ∃ y, xbef V1.m x V1.next = y := ⟨_, rfl⟩
      have HBF := hide hbf
      simp only [hbf] at CB
      clear hbf
      have HLV : Hid (bv < W1.heap.size) := HB.out.lt
      have HOLD : Hid (Sn.below V1 q1 bv) := HOLD0
      cases ok with
      | false =>
        obtain ⟨vbc0, vbc1, vbc2, vbc3, vbc4, vbc5, vbc6, vbc7, vbc8, vbc9, vbc10, vbf0, vbf1, vbf2, vbf3, vbf4, vbf5, vbf6, vbf7, vbf8, vbf9, vbf10, vbl⟩ := HB.out
        clear vbf0 vbf1 vbf2 vbf3 vbf4 vbf5 vbf6 vbf7 vbf8 vbf9 vbf10
        go_wp2_with fail
        refine (sawake_any _).mono ?_
        rintro e w2 ⟨rfl, ho⟩
        clear vbc0 vbc1 vbc2 vbc3 vbc4 vbc5 vbc6 vbc7 vbc8 vbc9 vbc10 vbl
        have HO := hide (o2 HO.out ho)
        clear ho
        go_wp2_with fail
        go_ret
        exact ⟨rfl, HO.out⟩
      | true =>
        by_cases ho : x = V1.own
        · have g : (x == V1.own) = true := by simp [ho]
          clear ho
          obtain ⟨vbc0, vbc1, vbc2, vbc3, vbc4, vbc5, vbc6, vbc7, vbc8, vbc9, vbc10, vbf0, vbf1, vbf2, vbf3, vbf4, vbf5, vbf6, vbf7, vbf8, vbf9, vbf10, vbl⟩ := HB.out
          clear vbf0 vbf1 vbf2 vbf3 vbf4 vbf5 vbf6 vbf7 vbf8 vbf9 vbf10
          go_wp2_with fail
          refine (sawake_any _).mono ?_
          rintro e w2 ⟨rfl, ho⟩
          clear vbc0 vbc1 vbc2 vbc3 vbc4 vbc5 vbc6 vbc7 vbc8 vbc9 vbc10 vbl
          have HO := hide (o2 HO.out ho)
          clear ho
          go_wp2_with fail
          go_ret
          exact ⟨rfl, HO.out⟩
        · have g : (x == V1.own) = false := by simp [ho]
          have HNE := hide ho
          clear ho
          have HRO : Hid (b = true ∨ bf = false → ∀ p, vsees (⟨V1.m, V1.next, V1.act, V1.own, [], p⟩ : Vw) x = false ∧ vvis (⟨V1.m, V1.next, V1.act, V1.own, [], p⟩ : Vw) ⟨x, 0, false, ⟨#[107]⟩, ⟨#[]⟩⟩ = false ∧ vsees V1 x = false) := fun h p => by
            have h2 : x ∈ V1.act ∨ xbef V1.m x V1.next = false := by
              rcases h with h | h
              · exact .inl (HQ.out.1 h)
              · exact .inr (by rw [HBF.out, h])
            exact ⟨later_not (V := ⟨V1.m, V1.next, V1.act, V1.own, [], p⟩) HNE.out h2, later_vis (V := ⟨V1.m, V1.next, V1.act, V1.own, [], p⟩) HNE.out h2, later_not HNE.out h2⟩
          clear HBF HQ HNE
          cases b with
          | false =>
            obtain ⟨vbc0, vbc1, vbc2, vbc3, vbc4, vbc5, vbc6, vbc7, vbc8, vbc9, vbc10, vbf0, vbf1, vbf2, vbf3, vbf4, vbf5, vbf6, vbf7, vbf8, vbf9, vbf10, vbl⟩ := HB.out
            clear vbf0 vbf1 vbf2 vbf3 vbf4 vbf5 vbf6 vbf7 vbf8 vbf9 vbf10
            go_wp2_with fail
            refine (CB.out _ HN.out).mono ?_
            rintro e w2 ⟨rfl, ho⟩
            clear vbc0 vbc1 vbc2 vbc3 vbc4 vbc5 vbc6 vbc7 vbc8 vbc9 vbc10 vbl
            have HB := hide (HB.out.more ho)
            have HN := hide (HN.out.more ho)
            have HO := hide (o2 HO.out ho)
            clear ho
            cases bf with
            | true =>
              obtain ⟨vbc0, vbc1, vbc2, vbc3, vbc4, vbc5, vbc6, vbc7, vbc8, vbc9, vbc10, vbf0, vbf1, vbf2, vbf3, vbf4, vbf5, vbf6, vbf7, vbf8, vbf9, vbf10, vbl⟩ := HB.out
              clear vbf0 vbf1 vbf2 vbf3 vbf4 vbf5 vbf6 vbf7 vbf8 vbf9 vbf10
              go_wp2_with fail
              refine (sawake_any _).mono ?_
              rintro e w3 ⟨rfl, ho⟩
              clear vbc0 vbc1 vbc2 vbc3 vbc4 vbc5 vbc6 vbc7 vbc8 vbc9 vbc10 vbl
              have HO := hide (o2 HO.out ho)
              clear ho
              go_wp2_with fail
              go_ret
              exact ⟨rfl, HO.out⟩
            | false =>
              have HLV2 : Hid (bv < w2.heap.size) := HB.out.lt
              have HRP := hide (HRO.out (by simp))
              clear HRO
              have C0 := hide (fun W (h : Sn W V1 q1) => sees_any W V1 q1 x h HX.out)
              simp only [(HRP.out V1.pg).2.2] at C0
              have CS := hide (fun W (h : Sn W V1 q1) => cset_any W V1.m V1.pg.lsn V1.pg.kind V1.pg.level V1.pg.right x V1.pg.high q1.cP q1.bP q1.aP V1.pg.items 2 h.m HX.out h.pg (by omega))
              obtain ⟨vbc0, vbc1, vbc2, vbc3, vbc4, vbc5, vbc6, vbc7, vbc8, vbc9, vbc10, vbf0, vbf1, vbf2, vbf3, vbf4, vbf5, vbf6, vbf7, vbf8, vbf9, vbf10, vbl⟩ := HB.out
              clear vbf0 vbf1 vbf2 vbf3 vbf4 vbf5 vbf6 vbf7 vbf8 vbf9 vbf10
              go_wp2_with fail
              refine (CS.out _ HN.out).mono ?_
              rintro e w5 ⟨B5, ao5, cp5, rfl, hS5, hF5, ho, hB5⟩
              clear vbc0 vbc1 vbc2 vbc3 vbc4 vbc5 vbc6 vbc7 vbc8 vbc9 vbc10 vbl
              have e0 : (⟨V1.pg.lsn, V1.pg.kind, V1.pg.level, V1.pg.right, V1.pg.high, V1.pg.items⟩ : Pg) = V1.pg := rfl
              simp only [e0] at hS5 hF5 hB5 ⊢
              have hkb := setC_bd V1.m V1.pg x 2
              obtain ⟨kc, hkc⟩ : ∃ k, setC V1.m V1.pg x 2 = k := ⟨_, rfl⟩
              obtain ⟨p, hp⟩ : ∃ p, setR V1.m V1.pg x 2 = p := ⟨_, rfl⟩
              rw [hkc] at hkb ⊢
              rw [hp] at hS5 hF5 hB5 ⊢
              clear hkc hp e0
              have HB := hide (HB.out.more ho)
              have HN := hide (HN.out.more ho)
              have HO := hide (o2 HO.out ho)
              have HPQ := hide (PgB.new hS5 hF5)
              have HBP : Hid (0 < p.items.length → bv < B5) := fun h => by have := hB5 h; have := HLV2.out; omega
              have hoA := onlyA w5 (.cells #[.int .i64 p.lsn, .int .i64 p.kind, .int .i64 p.level, .int .i64 p.right, .string p.high, .slice ao5 p.items.length cp5] 30)
              have HB := hide (HB.out.more hoA)
              have HN := hide (HN.out.more hoA)
              have HO := hide (o2 HO.out hoA)
              clear hS5 hF5 hB5 ho hoA
              go_upto_region 10 with fail
              obtain ⟨W6, hW6⟩ : ∃ W, w5.alloc (.cells #[.int .i64 p.lsn, .int .i64 p.kind, .int .i64 p.level, .int .i64 p.right, .string p.high, .slice ao5 p.items.length cp5] 30) = W := ⟨_, rfl⟩
              obtain ⟨bq, hbq⟩ : ∃ b, w5.heap.size = b := ⟨_, rfl⟩
              rw [hW6] at HB HN HO HPQ ⊢
              rw [hbq] at HPQ ⊢
              clear hW6 hbq
              by_cases hk : kc = 0
              · subst hk
                obtain ⟨vbc0, vbc1, vbc2, vbc3, vbc4, vbc5, vbc6, vbc7, vbc8, vbc9, vbc10, vbf0, vbf1, vbf2, vbf3, vbf4, vbf5, vbf6, vbf7, vbf8, vbf9, vbf10, vbl⟩ := HB.out
                clear vbf0 vbf1 vbf2 vbf3 vbf4 vbf5 vbf6 vbf7 vbf8 vbf9 vbf10
                go_wp2_with fail
                refine (C0.out _ HN.out).mono ?_
                rintro e w7 ⟨rfl, ho⟩
                clear vbc0 vbc1 vbc2 vbc3 vbc4 vbc5 vbc6 vbc7 vbc8 vbc9 vbc10 vbl
                have HB := hide (HB.out.more ho)
                have HN := hide (HN.out.more ho)
                have HO := hide (o2 HO.out ho)
                have HPQ := hide (HPQ.out.more ho)
                clear ho C0 CS
                have HZb := hide (HB.out.page (.int .i64 p.lsn) (.int .i64 p.kind) (.int .i64 p.level) (.int .i64 p.right) (.string p.high) (.slice ao5 p.items.length cp5))
                have HOb := hide (Only.pageAt w7 bv (.int .i64 p.lsn) (.int .i64 p.kind) (.int .i64 p.level) (.int .i64 p.right) (.string p.high) (.slice ao5 p.items.length cp5))
                obtain ⟨vbc0, vbc1, vbc2, vbc3, vbc4, vbc5, vbc6, vbc7, vbc8, vbc9, vbc10, vbf0, vbf1, vbf2, vbf3, vbf4, vbf5, vbf6, vbf7, vbf8, vbf9, vbf10, vbl⟩ := HB.out
                obtain ⟨p0, p1, p2, p3, p4, p5, f0, f1, f2, f3, f4, f5, fl⟩ := HPQ.out.pag
                go_upto_region 14 with fail
                clear vbc0 vbc1 vbc2 vbc3 vbc4 vbc5 vbc6 vbc7 vbc8 vbc9 vbc10 vbf0 vbf1 vbf2 vbf3 vbf4 vbf5 vbf6 vbf7 vbf8 vbf9 vbf10 vbl
                clear p0 p1 p2 p3 p4 p5 f0 f1 f2 f3 f4 f5 fl
                obtain ⟨W8, hW8⟩ : ∃ W, ((((((w7.setCell ⟨bv, 5, none⟩ (.int .i64 p.lsn)).setCell ⟨bv, 6, none⟩ (.int .i64 p.kind)).setCell ⟨bv, 7, none⟩ (.int .i64 p.level)).setCell ⟨bv, 8, none⟩ (.int .i64 p.right)).setCell ⟨bv, 9, none⟩ (.string p.high)).setCell ⟨bv, 10, none⟩ (.slice ao5 p.items.length cp5)) = W := ⟨_, rfl⟩
                rw [hW8] at HZb HOb ⊢
                clear hW8
                have HZc := hide (HZb.out.run (.slice none 0 0))
                have HOc := hide (HOb.out.trans (Only.setCell (S := fun k => k = bv) W8 ⟨bv, 4, none⟩ (.slice none 0 0) rfl) (fun _ _ h => h))
                obtain ⟨d0, d1, d2, d3, d4, d5, d6, d7, d8, d9, d10, e0, e1, e2, e3, e4, e5, e6, e7, e8, e9, e10, dl⟩ := HZb.out
                go_upto_region 15 with fail
                clear d0 d1 d2 d3 d4 d5 d6 d7 d8 d9 d10 e0 e1 e2 e3 e4 e5 e6 e7 e8 e9 e10 dl
                obtain ⟨W9, hW9⟩ : ∃ W, W8.setCell ⟨bv, 4, none⟩ (.slice none 0 0) = W := ⟨_, rfl⟩
                rw [hW9] at HZc HOc ⊢
                clear hW9
                have HN2 : Hid (Sn W9 (⟨V1.m, V1.next, V1.act, V1.own, [], p⟩ : Vw) ⟨q1.bA, q1.aA, q1.cA, 0, none, 0, B5, ao5, cp5⟩) := ⟨HN.out.act.kept HOc.out (fun h e => by have := HOLD.out.1 h; omega), Ns.nil _ _ _, HPQ.out.strs.kept HOc.out (fun h e => by have := HBP.out h; omega), HPQ.out.fit, HN.out.m, HN.out.next, HN.out.own⟩
                have HO : Hid (Only (fun _ => False) w W9) := HO.out.trans HOc.out (fun k hk e => by have := HBV.out; omega)
                have C5 := hide (fun W (h : Sn W (⟨V1.m, V1.next, V1.act, V1.own, [], p⟩ : Vw) ⟨q1.bA, q1.aA, q1.cA, 0, none, 0, B5, ao5, cp5⟩) => sees_any W ⟨V1.m, V1.next, V1.act, V1.own, [], p⟩ ⟨q1.bA, q1.aA, q1.cA, 0, none, 0, B5, ao5, cp5⟩ x h HX.out)
                have C6 := hide (fun W (h : Sn W (⟨V1.m, V1.next, V1.act, V1.own, [], p⟩ : Vw) ⟨q1.bA, q1.aA, q1.cA, 0, none, 0, B5, ao5, cp5⟩) => visible_any W ⟨V1.m, V1.next, V1.act, V1.own, [], p⟩ ⟨q1.bA, q1.aA, q1.cA, 0, none, 0, B5, ao5, cp5⟩ ⟨x, 0, false, ⟨#[107]⟩, ⟨#[]⟩⟩ h ⟨HX.out, i64 (n := 0) (by omega) (by omega)⟩)
                simp only [(HRP.out p).1, (HRP.out p).2.1, List.length_nil] at C5 C6
                have HB := HZc
                have HN := HN2
                clear HZb HOb HOc HZc HN2 HPQ HRP
                obtain ⟨vbc0, vbc1, vbc2, vbc3, vbc4, vbc5, vbc6, vbc7, vbc8, vbc9, vbc10, vbf0, vbf1, vbf2, vbf3, vbf4, vbf5, vbf6, vbf7, vbf8, vbf9, vbf10, vbl⟩ := HB.out
                clear vbf0 vbf1 vbf2 vbf3 vbf4 vbf5 vbf6 vbf7 vbf8 vbf9 vbf10
                go_wp2_with fail
                refine (C5.out _ HN.out).mono ?_
                rintro e w10 ⟨rfl, ho⟩
                clear vbc0 vbc1 vbc2 vbc3 vbc4 vbc5 vbc6 vbc7 vbc8 vbc9 vbc10 vbl
                have HB := hide (HB.out.more ho)
                have HN := hide (HN.out.more ho)
                have HO := hide (o2 HO.out ho)
                clear ho
                obtain ⟨vbc0, vbc1, vbc2, vbc3, vbc4, vbc5, vbc6, vbc7, vbc8, vbc9, vbc10, vbf0, vbf1, vbf2, vbf3, vbf4, vbf5, vbf6, vbf7, vbf8, vbf9, vbf10, vbl⟩ := HB.out
                clear vbf0 vbf1 vbf2 vbf3 vbf4 vbf5 vbf6 vbf7 vbf8 vbf9 vbf10
                go_wp2_with fail
                refine (C6.out _ HN.out).mono ?_
                rintro e w11 ⟨rfl, ho⟩
                clear vbc0 vbc1 vbc2 vbc3 vbc4 vbc5 vbc6 vbc7 vbc8 vbc9 vbc10 vbl
                have HB := hide (HB.out.more ho)
                have HN := hide (HN.out.more ho)
                have HO := hide (o2 HO.out ho)
                clear ho
                obtain ⟨vbc0, vbc1, vbc2, vbc3, vbc4, vbc5, vbc6, vbc7, vbc8, vbc9, vbc10, vbf0, vbf1, vbf2, vbf3, vbf4, vbf5, vbf6, vbf7, vbf8, vbf9, vbf10, vbl⟩ := HB.out
                clear vbf0 vbf1 vbf2 vbf3 vbf4 vbf5 vbf6 vbf7 vbf8 vbf9 vbf10
                go_wp2_with fail
                refine (sawake_any _).mono ?_
                rintro e w12 ⟨rfl, ho⟩
                clear vbc0 vbc1 vbc2 vbc3 vbc4 vbc5 vbc6 vbc7 vbc8 vbc9 vbc10 vbl
                have HO := hide (o2 HO.out ho)
                clear ho
                go_wp2_with fail
                go_ret
                exact ⟨rfl, HO.out⟩
              · have g1 : (kc != 0) = true := by simp [hk]
                clear hk hkb
                obtain ⟨vbc0, vbc1, vbc2, vbc3, vbc4, vbc5, vbc6, vbc7, vbc8, vbc9, vbc10, vbf0, vbf1, vbf2, vbf3, vbf4, vbf5, vbf6, vbf7, vbf8, vbf9, vbf10, vbl⟩ := HB.out
                clear vbf0 vbf1 vbf2 vbf3 vbf4 vbf5 vbf6 vbf7 vbf8 vbf9 vbf10
                go_wp2_with fail
                refine (sawake_any _).mono ?_
                rintro e w7 ⟨rfl, ho⟩
                clear vbc0 vbc1 vbc2 vbc3 vbc4 vbc5 vbc6 vbc7 vbc8 vbc9 vbc10 vbl
                have HO := hide (o2 HO.out ho)
                clear ho
                go_wp2_with fail
                go_ret
                exact ⟨rfl, HO.out⟩
          | true =>
            have HRP := hide (HRO.out (by simp))
            clear HRO
            have C0 := hide (fun W (h : Sn W V1 q1) => sees_any W V1 q1 x h HX.out)
            simp only [(HRP.out V1.pg).2.2] at C0
            have CS := hide (fun W (h : Sn W V1 q1) => cset_any W V1.m V1.pg.lsn V1.pg.kind V1.pg.level V1.pg.right x V1.pg.high q1.cP q1.bP q1.aP V1.pg.items 2 h.m HX.out h.pg (by omega))
            obtain ⟨vbc0, vbc1, vbc2, vbc3, vbc4, vbc5, vbc6, vbc7, vbc8, vbc9, vbc10, vbf0, vbf1, vbf2, vbf3, vbf4, vbf5, vbf6, vbf7, vbf8, vbf9, vbf10, vbl⟩ := HB.out
            clear vbf0 vbf1 vbf2 vbf3 vbf4 vbf5 vbf6 vbf7 vbf8 vbf9 vbf10
            go_wp2_with fail
            refine (CS.out _ HN.out).mono ?_
            rintro e w5 ⟨B5, ao5, cp5, rfl, hS5, hF5, ho, hB5⟩
            clear vbc0 vbc1 vbc2 vbc3 vbc4 vbc5 vbc6 vbc7 vbc8 vbc9 vbc10 vbl
            have e0 : (⟨V1.pg.lsn, V1.pg.kind, V1.pg.level, V1.pg.right, V1.pg.high, V1.pg.items⟩ : Pg) = V1.pg := rfl
            simp only [e0] at hS5 hF5 hB5 ⊢
            have hkb := setC_bd V1.m V1.pg x 2
            obtain ⟨kc, hkc⟩ : ∃ k, setC V1.m V1.pg x 2 = k := ⟨_, rfl⟩
            obtain ⟨p, hp⟩ : ∃ p, setR V1.m V1.pg x 2 = p := ⟨_, rfl⟩
            rw [hkc] at hkb ⊢
            rw [hp] at hS5 hF5 hB5 ⊢
            clear hkc hp e0
            have HB := hide (HB.out.more ho)
            have HN := hide (HN.out.more ho)
            have HO := hide (o2 HO.out ho)
            have HPQ := hide (PgB.new hS5 hF5)
            have HBP : Hid (0 < p.items.length → bv < B5) := fun h => by have := hB5 h; have := HLV.out; omega
            have hoA := onlyA w5 (.cells #[.int .i64 p.lsn, .int .i64 p.kind, .int .i64 p.level, .int .i64 p.right, .string p.high, .slice ao5 p.items.length cp5] 30)
            have HB := hide (HB.out.more hoA)
            have HN := hide (HN.out.more hoA)
            have HO := hide (o2 HO.out hoA)
            clear hS5 hF5 hB5 ho hoA
            go_upto_region 10 with fail
            obtain ⟨W6, hW6⟩ : ∃ W, w5.alloc (.cells #[.int .i64 p.lsn, .int .i64 p.kind, .int .i64 p.level, .int .i64 p.right, .string p.high, .slice ao5 p.items.length cp5] 30) = W := ⟨_, rfl⟩
            obtain ⟨bq, hbq⟩ : ∃ b, w5.heap.size = b := ⟨_, rfl⟩
            rw [hW6] at HB HN HO HPQ ⊢
            rw [hbq] at HPQ ⊢
            clear hW6 hbq
            by_cases hk : kc = 0
            · subst hk
              obtain ⟨vbc0, vbc1, vbc2, vbc3, vbc4, vbc5, vbc6, vbc7, vbc8, vbc9, vbc10, vbf0, vbf1, vbf2, vbf3, vbf4, vbf5, vbf6, vbf7, vbf8, vbf9, vbf10, vbl⟩ := HB.out
              clear vbf0 vbf1 vbf2 vbf3 vbf4 vbf5 vbf6 vbf7 vbf8 vbf9 vbf10
              go_wp2_with fail
              refine (C0.out _ HN.out).mono ?_
              rintro e w7 ⟨rfl, ho⟩
              clear vbc0 vbc1 vbc2 vbc3 vbc4 vbc5 vbc6 vbc7 vbc8 vbc9 vbc10 vbl
              have HB := hide (HB.out.more ho)
              have HN := hide (HN.out.more ho)
              have HO := hide (o2 HO.out ho)
              have HPQ := hide (HPQ.out.more ho)
              clear ho C0 CS
              have HZb := hide (HB.out.page (.int .i64 p.lsn) (.int .i64 p.kind) (.int .i64 p.level) (.int .i64 p.right) (.string p.high) (.slice ao5 p.items.length cp5))
              have HOb := hide (Only.pageAt w7 bv (.int .i64 p.lsn) (.int .i64 p.kind) (.int .i64 p.level) (.int .i64 p.right) (.string p.high) (.slice ao5 p.items.length cp5))
              obtain ⟨vbc0, vbc1, vbc2, vbc3, vbc4, vbc5, vbc6, vbc7, vbc8, vbc9, vbc10, vbf0, vbf1, vbf2, vbf3, vbf4, vbf5, vbf6, vbf7, vbf8, vbf9, vbf10, vbl⟩ := HB.out
              obtain ⟨p0, p1, p2, p3, p4, p5, f0, f1, f2, f3, f4, f5, fl⟩ := HPQ.out.pag
              go_upto_region 14 with fail
              clear vbc0 vbc1 vbc2 vbc3 vbc4 vbc5 vbc6 vbc7 vbc8 vbc9 vbc10 vbf0 vbf1 vbf2 vbf3 vbf4 vbf5 vbf6 vbf7 vbf8 vbf9 vbf10 vbl
              clear p0 p1 p2 p3 p4 p5 f0 f1 f2 f3 f4 f5 fl
              obtain ⟨W8, hW8⟩ : ∃ W, ((((((w7.setCell ⟨bv, 5, none⟩ (.int .i64 p.lsn)).setCell ⟨bv, 6, none⟩ (.int .i64 p.kind)).setCell ⟨bv, 7, none⟩ (.int .i64 p.level)).setCell ⟨bv, 8, none⟩ (.int .i64 p.right)).setCell ⟨bv, 9, none⟩ (.string p.high)).setCell ⟨bv, 10, none⟩ (.slice ao5 p.items.length cp5)) = W := ⟨_, rfl⟩
              rw [hW8] at HZb HOb ⊢
              clear hW8
              have HZc := hide (HZb.out.run (.slice none 0 0))
              have HOc := hide (HOb.out.trans (Only.setCell (S := fun k => k = bv) W8 ⟨bv, 4, none⟩ (.slice none 0 0) rfl) (fun _ _ h => h))
              obtain ⟨d0, d1, d2, d3, d4, d5, d6, d7, d8, d9, d10, e0, e1, e2, e3, e4, e5, e6, e7, e8, e9, e10, dl⟩ := HZb.out
              go_upto_region 15 with fail
              clear d0 d1 d2 d3 d4 d5 d6 d7 d8 d9 d10 e0 e1 e2 e3 e4 e5 e6 e7 e8 e9 e10 dl
              obtain ⟨W9, hW9⟩ : ∃ W, W8.setCell ⟨bv, 4, none⟩ (.slice none 0 0) = W := ⟨_, rfl⟩
              rw [hW9] at HZc HOc ⊢
              clear hW9
              have HN2 : Hid (Sn W9 (⟨V1.m, V1.next, V1.act, V1.own, [], p⟩ : Vw) ⟨q1.bA, q1.aA, q1.cA, 0, none, 0, B5, ao5, cp5⟩) := ⟨HN.out.act.kept HOc.out (fun h e => by have := HOLD.out.1 h; omega), Ns.nil _ _ _, HPQ.out.strs.kept HOc.out (fun h e => by have := HBP.out h; omega), HPQ.out.fit, HN.out.m, HN.out.next, HN.out.own⟩
              have HO : Hid (Only (fun _ => False) w W9) := HO.out.trans HOc.out (fun k hk e => by have := HBV.out; omega)
              have C5 := hide (fun W (h : Sn W (⟨V1.m, V1.next, V1.act, V1.own, [], p⟩ : Vw) ⟨q1.bA, q1.aA, q1.cA, 0, none, 0, B5, ao5, cp5⟩) => sees_any W ⟨V1.m, V1.next, V1.act, V1.own, [], p⟩ ⟨q1.bA, q1.aA, q1.cA, 0, none, 0, B5, ao5, cp5⟩ x h HX.out)
              have C6 := hide (fun W (h : Sn W (⟨V1.m, V1.next, V1.act, V1.own, [], p⟩ : Vw) ⟨q1.bA, q1.aA, q1.cA, 0, none, 0, B5, ao5, cp5⟩) => visible_any W ⟨V1.m, V1.next, V1.act, V1.own, [], p⟩ ⟨q1.bA, q1.aA, q1.cA, 0, none, 0, B5, ao5, cp5⟩ ⟨x, 0, false, ⟨#[107]⟩, ⟨#[]⟩⟩ h ⟨HX.out, i64 (n := 0) (by omega) (by omega)⟩)
              simp only [(HRP.out p).1, (HRP.out p).2.1, List.length_nil] at C5 C6
              have HB := HZc
              have HN := HN2
              clear HZb HOb HOc HZc HN2 HPQ HRP
              obtain ⟨vbc0, vbc1, vbc2, vbc3, vbc4, vbc5, vbc6, vbc7, vbc8, vbc9, vbc10, vbf0, vbf1, vbf2, vbf3, vbf4, vbf5, vbf6, vbf7, vbf8, vbf9, vbf10, vbl⟩ := HB.out
              clear vbf0 vbf1 vbf2 vbf3 vbf4 vbf5 vbf6 vbf7 vbf8 vbf9 vbf10
              go_wp2_with fail
              refine (C5.out _ HN.out).mono ?_
              rintro e w10 ⟨rfl, ho⟩
              clear vbc0 vbc1 vbc2 vbc3 vbc4 vbc5 vbc6 vbc7 vbc8 vbc9 vbc10 vbl
              have HB := hide (HB.out.more ho)
              have HN := hide (HN.out.more ho)
              have HO := hide (o2 HO.out ho)
              clear ho
              obtain ⟨vbc0, vbc1, vbc2, vbc3, vbc4, vbc5, vbc6, vbc7, vbc8, vbc9, vbc10, vbf0, vbf1, vbf2, vbf3, vbf4, vbf5, vbf6, vbf7, vbf8, vbf9, vbf10, vbl⟩ := HB.out
              clear vbf0 vbf1 vbf2 vbf3 vbf4 vbf5 vbf6 vbf7 vbf8 vbf9 vbf10
              go_wp2_with fail
              refine (C6.out _ HN.out).mono ?_
              rintro e w11 ⟨rfl, ho⟩
              clear vbc0 vbc1 vbc2 vbc3 vbc4 vbc5 vbc6 vbc7 vbc8 vbc9 vbc10 vbl
              have HB := hide (HB.out.more ho)
              have HN := hide (HN.out.more ho)
              have HO := hide (o2 HO.out ho)
              clear ho
              obtain ⟨vbc0, vbc1, vbc2, vbc3, vbc4, vbc5, vbc6, vbc7, vbc8, vbc9, vbc10, vbf0, vbf1, vbf2, vbf3, vbf4, vbf5, vbf6, vbf7, vbf8, vbf9, vbf10, vbl⟩ := HB.out
              clear vbf0 vbf1 vbf2 vbf3 vbf4 vbf5 vbf6 vbf7 vbf8 vbf9 vbf10
              go_wp2_with fail
              refine (sawake_any _).mono ?_
              rintro e w12 ⟨rfl, ho⟩
              clear vbc0 vbc1 vbc2 vbc3 vbc4 vbc5 vbc6 vbc7 vbc8 vbc9 vbc10 vbl
              have HO := hide (o2 HO.out ho)
              clear ho
              go_wp2_with fail
              go_ret
              exact ⟨rfl, HO.out⟩
            · have g1 : (kc != 0) = true := by simp [hk]
              clear hk hkb
              obtain ⟨vbc0, vbc1, vbc2, vbc3, vbc4, vbc5, vbc6, vbc7, vbc8, vbc9, vbc10, vbf0, vbf1, vbf2, vbf3, vbf4, vbf5, vbf6, vbf7, vbf8, vbf9, vbf10, vbl⟩ := HB.out
              clear vbf0 vbf1 vbf2 vbf3 vbf4 vbf5 vbf6 vbf7 vbf8 vbf9 vbf10
              go_wp2_with fail
              refine (sawake_any _).mono ?_
              rintro e w7 ⟨rfl, ho⟩
              clear vbc0 vbc1 vbc2 vbc3 vbc4 vbc5 vbc6 vbc7 vbc8 vbc9 vbc10 vbl
              have HO := hide (o2 HO.out ho)
              clear ho
              go_wp2_with fail
              go_ret
              exact ⟨rfl, HO.out⟩
end Go.Proofs.YtolfmodgkkjnbaaGreat
