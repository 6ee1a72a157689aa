/- The law's own examples. -/
import Derived.Test.YtolfmodgkkjnbaaGreatSMade
namespace Go.Proofs.YtolfmodgkkjnbaaGreat
open Go.RowKit

theorem id16 {x : Int} (h1 : 1 ≤ x) (h2 : x ≤ 16) : Idd 16 x := ⟨⟨by omega, by omega, by decide⟩, h1, h2⟩
def sX : Nat → Int := fun j => (j : Int) + 1
def sS : Nat → Nat := fun j => if j = 1 then 3 else 2
def sP (b : UInt8) : Pg := ⟨0, 1, 0, 0, ⟨#[]⟩, [⟨#[1]⟩, ⟨#[b, 0, 0, 0]⟩]⟩
theorem setC_ok {m x : Int} {p : Pg} {s : Nat} (hp : OkP m p) (hx : Idd m x) (hs : s ≤ 3) : setC m p x s = 0 := by
  unfold setC
  rw [if_pos (cid_ok hx hp), if_pos hs]
theorem sP0 : blankP 16 1 = sP 0 := rfl
theorem sok0 : OkP 16 (sP 0) := by have := OkP.blank (id16 (x := 1) (by omega) (by omega)); rw [sP0] at this; exact this
theorem sP1 : setP (sP 0) 1 2 = sP 2 := rfl
theorem sP2 : setP (sP 2) 2 3 = sP 14 := rfl
theorem sP3 : setP (sP 14) 3 2 = sP 46 := rfl
theorem sok1 : OkP 16 (sP 2) := by have := sok0.set (id16 (x := 1) (by omega) (by omega)) (show 2 < 4 by omega); rw [sP1] at this; exact this
theorem sok2 : OkP 16 (sP 14) := by have := sok1.set (id16 (x := 2) (by omega) (by omega)) (show 3 < 4 by omega); rw [sP2] at this; exact this
theorem sok3 : OkP 16 (sP 46) := by have := sok2.set (id16 (x := 3) (by omega) (by omega)) (show 2 < 4 by omega); rw [sP3] at this; exact this
theorem say_step {m f : Int} {X : Nat → Int} {S : Nat → Nat} {k : Nat} {p q : Pg} {x : Int} {s : Nat} (h : sayP m f X S k = p) (hx : X k = x) (hs : S k = s) (hp : OkP m p) (hi : Idd m x) (h3 : s ≤ 3) (hq : setP p x s = q) : sayP m f X S (k + 1) = q := by
  rw [sayP, h, hx, hs, if_pos (setC_ok hp hi h3)]
  unfold setR
  rw [if_pos (setC_ok hp hi h3), hq]
theorem say3 : sayP 16 1 sX sS 3 = sP 46 :=
  say_step (say_step (say_step sP0 rfl rfl sok0 (id16 (x := 1) (by omega) (by omega)) (by decide) sP1) rfl rfl sok1 (id16 (x := 2) (by omega) (by omega)) (by decide) sP2) rfl rfl sok2 (id16 (x := 3) (by omega) (by omega)) (by decide) sP3
def sV : Vw := ⟨16, 4, [3], 0, [4], sP 46⟩
theorem sg (x : Int) (h1 : 1 ≤ x) (h2 : x ≤ 16) : gst 16 (sP 46) x = stAt (bl ⟨#[46, 0, 0, 0]⟩) (x - 1).toNat := by
  unfold gst
  rw [if_pos (cid_ok (id16 h1 h2) sok3)]
  rfl
theorem sv4 : vsi sV 4 = 1 := by unfold vsi; rw [if_pos (by simp [sV])]
theorem sv1 : vsi sV 1 = 2 := by unfold vsi; rw [if_neg (by simp [sV])]; show ((gst 16 (sP 46) 1 : Nat) : Int) = 2; rw [sg 1 (by omega) (by omega)]; rfl
theorem sv2 : vsi sV 2 = 3 := by unfold vsi; rw [if_neg (by simp [sV])]; show ((gst 16 (sP 46) 2 : Nat) : Int) = 3; rw [sg 2 (by omega) (by omega)]; rfl
theorem sv3 : vsi sV 3 = 2 := by unfold vsi; rw [if_neg (by simp [sV])]; show ((gst 16 (sP 46) 3 : Nat) : Int) = 2; rw [sg 3 (by omega) (by omega)]; rfl
theorem xb16 (a b : Int) (h1 : 1 ≤ a) (h2 : a ≤ 16) (h3 : 1 ≤ b) (h4 : b ≤ 16) : xbef 16 a b = decide (1 ≤ (if a ≤ b then b - a else b - a + 16) ∧ (if a ≤ b then b - a else b - a + 16) ≤ 7) := by
  unfold xbef
  rw [ring_gap (id16 h1 h2) (id16 h3 h4)]
  rfl
theorem ss1 : vsees sV 1 = true := by
  unfold vsees vcom vdone vown
  rw [sv1]
  show ((sV.own != 0 && (1 : Int) == sV.own) || (decide ((2 : Int) = 2) && (xbef 16 1 4 && !decide ((1 : Int) ∈ [3])))) = true
  rw [xb16 1 4 (by omega) (by omega) (by omega) (by omega)]
  decide
theorem ss3 : vsees sV 3 = false := by
  unfold vsees vcom vdone vown
  rw [sv3]
  show (((0 : Int) != 0 && (3 : Int) == 0) || (decide ((2 : Int) = 2) && (xbef 16 3 4 && !decide ((3 : Int) ∈ [3])))) = false
  simp
theorem svis : vvis sV ⟨1, 3, false, ⟨#[]⟩, ⟨#[]⟩⟩ = true := by
  unfold vvis vbeg vend
  simp only [ss1, ss3]
  rfl
theorem snew : vnewer sV ⟨1, 3, false, ⟨#[]⟩, ⟨#[]⟩⟩ = true := by
  unfold vnewer vnews vcom
  simp only [ss1, ss3, sv1, sv3]
  rfl
theorem sgone : vgone sV ⟨2, 0, false, ⟨#[]⟩, ⟨#[]⟩⟩ 4 = true := by
  unfold vgone vnever vabo
  simp only [sv2]
  rfl
theorem shor : hor 16 (hall 5 [4] [(5, [3])]) = 3 := by
  have e : hall 5 [4] [(5, [3])] = [5, 4, 5, 3] := rfl
  have f5 : hfst 16 [5, 4, 5, 3] 5 = false := by
    unfold hfst
    simp [xb16 4 5 (by omega) (by omega) (by omega) (by omega)]
  have f4 : hfst 16 [5, 4, 5, 3] 4 = false := by
    unfold hfst
    simp [xb16 3 4 (by omega) (by omega) (by omega) (by omega)]
  have f3 : hfst 16 [5, 4, 5, 3] 3 = true := by
    unfold hfst
    simp [xb16 5 3 (by omega) (by omega) (by omega) (by omega), xb16 4 3 (by omega) (by omega) (by omega) (by omega), xb16 3 3 (by omega) (by omega) (by omega) (by omega)]
  rw [e]
  unfold hor
  rw [List.find?_cons_of_neg (by simp [f5]), List.find?_cons_of_neg (by simp [f4]), List.find?_cons_of_neg (by simp [f5]), List.find?_cons_of_pos f3]
  rfl
theorem i64 {n : Int} (h : 0 ≤ n) (k : n ≤ 1024) : I64 n := ⟨by omega, by omega⟩
theorem Sds.lit (w : World) : Sds (w.alloc (.cells #[.int .i64 1, .int .u8 2, .int .i64 2, .int .u8 3, .int .i64 3, .int .u8 2] 57)) w.heap.size (some ⟨w.heap.size, 0, none⟩) 3 sX sS :=
  ⟨fun _ => ⟨0, rfl, fun j hj => by
    match j, hj with
    | 0, _ => exact ⟨by simp [sX], by simp [sS]⟩
    | 1, _ => exact ⟨by simp [sX], by simp [sS]⟩
    | 2, _ => exact ⟨by simp [sX], by simp [sS]⟩⟩, fun j hj => by
    match j, hj with
    | 0, _ => exact ⟨i64 (by simp [sX]) (by simp [sX]), by simp [sS]⟩
    | 1, _ => exact ⟨i64 (by simp [sX]) (by simp [sX]), by simp [sS]⟩
    | 2, _ => exact ⟨i64 (by simp [sX]) (by simp [sX]), by simp [sS]⟩, fun _ => by simp, by omega⟩
theorem cell_new2 (w : World) (a b : Value) (t : TypeId) (k : Nat) (h : w.heap.size = k) : (w.alloc (.cells #[a, b] t)).cell? ⟨k, 0, none⟩ = some a ∧ (w.alloc (.cells #[a, b] t)).cell? ⟨k, 1, none⟩ = some b := by subst h; simp
set_option maxRecDepth 100000 in
set_option maxHeartbeats 3200000 in
theorem sawake_any (w : World) : Calls Tryz.prog 23 #[] w fun e w' => e = .returned (.bool true) ∧ Only (fun _ => False) w w' := by
  obtain ⟨W0, hW0⟩ : ∃ W, (w.alloc (.cells #[.int .i64 1, .int .u8 2, .int .i64 2, .int .u8 3, .int .i64 3, .int .u8 2] 57)).alloc (.cells #[.int .i64 3] 3) = W := ⟨_, rfl⟩
  have HO0 : Hid (Only (fun _ => False) w W0) := by unfold Hid; rw [← hW0]; exact o2 (onlyA _ _) (onlyA _ _)
  have HSD : Hid (Sds W0 w.heap.size (some ⟨w.heap.size, 0, none⟩) 3 sX sS) := by unfold Hid; rw [← hW0]; exact (Sds.lit w).more (onlyA _ _)
  have HT : Hid (Calls Tryz.prog 45 #[.int .i64 4, .slice (some ⟨w.heap.size + 1, 0, none⟩) 1 1] W0 fun e w' => ∃ B ao cp, e = .returned (.agg #[.int .i64 4, .slice ao 1 cp]) ∧ Ns w' B ao [3] ∧ Only (fun _ => False) W0 w') := take_one W0 (w.heap.size + 1) 4 3 (i64 (by omega) (by omega)) (by rw [← hW0]; simp) (by rw [← hW0]; simp)
  go_enter Tryz.func23, Tryz.ntmps23
  go_wp2_with fail
  clear hW0
  refine HT.out.mono ?_
  rintro e w1 ⟨B1, ao1, cp1, rfl, hn1, ho1⟩
  obtain ⟨W1, hW1⟩ : ∃ W, w1.alloc (.cells #[.int .i64 4] 3) = W := ⟨_, rfl⟩
  have HO1 : Hid (Only (fun _ => False) w W1) := by unfold Hid; rw [← hW1]; exact o2 HO0.out (o2 ho1 (onlyA _ _))
  have HSN : Hid (Sn W1 ⟨0, 4, [3], 0, [4], Pg.none⟩ ⟨B1, ao1, cp1, w1.heap.size, some ⟨w1.heap.size, 0, none⟩, 1, 0, none, 0⟩) := by
    unfold Hid
    rw [← hW1]
    exact ⟨hn1.more (onlyA _ _), Ns.one w1 4 (i64 (by omega) (by omega)), Strs.nil _ _ _, ⟨fun _ => rfl, by simp [Pg.none], by simp⟩, i64 (n := 0) (by omega) (by omega), i64 (n := 4) (by omega) (by omega), i64 (n := 0) (by omega) (by omega)⟩
  have HSD : Hid (Sds W1 w.heap.size (some ⟨w.heap.size, 0, none⟩) 3 sX sS) := by unfold Hid; rw [← hW1]; exact HSD.out.more (o2 ho1 (onlyA _ _))
  have HM := hide (made_ok W1 16 1 w.heap.size (some ⟨w.heap.size, 0, none⟩) 3 3 sX sS ⟨0, 4, [3], 0, [4], Pg.none⟩ _ (id16 (by omega) (by omega)) HSD.out HSN.out)
  simp only [Pg.none, List.length_cons, List.length_nil, Nat.zero_add] at HM
  clear hn1 ho1 HT HSD HSN HO0
  go_wp2_with fail
  clear hW1
  refine HM.out.mono ?_
  rintro e w2 ⟨B2, ao2, cp2, hq⟩
  obtain ⟨q, hqq⟩ : ∃ q : Lo, (⟨B1, ao1, cp1, w1.heap.size, some ⟨w1.heap.size, 0, none⟩, 1, B2, ao2, cp2⟩ : Lo) = q := ⟨_, rfl⟩
  rw [hqq, say3] at hq
  obtain ⟨V, hV⟩ : ∃ V, sV = V := ⟨_, rfl⟩
  have hV2 : (⟨16, 4, [3], 0, [4], sP 46⟩ : Vw) = V := hV
  rw [hV2] at hq
  obtain ⟨rfl, hsn, ho2⟩ := hq
  have HN := hide hsn
  have HO2 := hide (o2 HO1.out ho2)
  have HB := hide (VB.new w2 (.int .i64 V.m) (.int .i64 V.next) (.slice q.aA V.act.length q.cA) (.int .i64 V.own) (.slice q.aR V.run.length q.cR) (.int .i64 V.pg.lsn) (.int .i64 V.pg.kind) (.int .i64 V.pg.level) (.int .i64 V.pg.right) (.string V.pg.high) (.slice q.aP V.pg.items.length q.cP))
  have HOB := hide (onlyA w2 (.cells #[.int .i64 V.m, .int .i64 V.next, .slice q.aA V.act.length q.cA, .int .i64 V.own, .slice q.aR V.run.length q.cR, .int .i64 V.pg.lsn, .int .i64 V.pg.kind, .int .i64 V.pg.level, .int .i64 V.pg.right, .string V.pg.high, .slice q.aP V.pg.items.length q.cP] 32))
  have C0 := hide (fun W (h : Sn W V q) => status_any W V q 4 h (i64 (by omega) (by omega)))
  have C1 := hide (fun W (h : Sn W V q) => sees_any W V q 1 h (i64 (by omega) (by omega)))
  have C2 := hide (fun W (h : Sn W V q) => sees_any W V q 3 h (i64 (by omega) (by omega)))
  have C3 := hide (fun W (h : Sn W V q) => visible_any W V q ⟨1, 3, false, ⟨#[]⟩, ⟨#[]⟩⟩ h ⟨i64 (by show (0 : Int) ≤ 1; omega) (by show (1 : Int) ≤ 1024; omega), i64 (by show (0 : Int) ≤ 3; omega) (by show (3 : Int) ≤ 1024; omega)⟩)
  have C4 := hide (fun W (h : Sn W V q) => newer_any W V q ⟨1, 3, false, ⟨#[]⟩, ⟨#[]⟩⟩ h ⟨i64 (by show (0 : Int) ≤ 1; omega) (by show (1 : Int) ≤ 1024; omega), i64 (by show (0 : Int) ≤ 3; omega) (by show (3 : Int) ≤ 1024; omega)⟩)
  have C5 := hide (fun W (h : Sn W V q) => gone_any W V q ⟨2, 0, false, ⟨#[]⟩, ⟨#[]⟩⟩ 4 h ⟨i64 (by show (0 : Int) ≤ 2; omega) (by show (2 : Int) ≤ 1024; omega), i64 (by show (0 : Int) ≤ 0; omega) (by show (0 : Int) ≤ 1024; omega)⟩ (i64 (by omega) (by omega)))
  have e4 := sv4
  have e1 := ss1
  have e3 := ss3
  have ev := svis
  have en := snew
  have eg := sgone
  rw [hV] at e4 e1 e3 ev en eg
  simp only [e4, e1, e3, ev, en, eg] at C0 C1 C2 C3 C4 C5
  clear hsn ho2 HM hV hV2 hqq e4 e1 e3 ev en eg HO1
  go_upto_region 2 with fail
  obtain ⟨W2, hW2⟩ : ∃ W, w2.alloc (.cells #[.int .i64 V.m, .int .i64 V.next, .slice q.aA V.act.length q.cA, .int .i64 V.own, .slice q.aR V.run.length q.cR, .int .i64 V.pg.lsn, .int .i64 V.pg.kind, .int .i64 V.pg.level, .int .i64 V.pg.right, .string V.pg.high, .slice q.aP V.pg.items.length q.cP] 32) = W := ⟨_, rfl⟩
  rw [hW2] at HB HOB ⊢
  clear hW2
  have HN := hide (HN.out.more HOB.out)
  have HO := hide (o2 HO2.out HOB.out)
  obtain ⟨b, hb⟩ : ∃ b, w2.heap.size = b := ⟨_, rfl⟩
  rw [hb] at HB ⊢
  clear hb HOB HO2
  obtain ⟨vc0, vc1, vc2, vc3, vc4, vc5, vc6, vc7, vc8, vc9, vc10, vf0, vf1, vf2, vf3, vf4, vf5, vf6, vf7, vf8, vf9, vf10, vl⟩ := HB.out
  clear vf0 vf1 vf2 vf3 vf4 vf5 vf6 vf7 vf8 vf9 vf10
  go_wp2_with fail
  refine (C0.out _ HN.out).mono ?_
  rintro e w4 ⟨rfl, ho⟩
  clear vc0 vc1 vc2 vc3 vc4 vc5 vc6 vc7 vc8 vc9 vc10 vl
  have HB := hide (HB.out.more ho)
  have HN := hide (HN.out.more ho)
  have HO := hide (o2 HO.out ho)
  clear ho
  obtain ⟨vc0, vc1, vc2, vc3, vc4, vc5, vc6, vc7, vc8, vc9, vc10, vf0, vf1, vf2, vf3, vf4, vf5, vf6, vf7, vf8, vf9, vf10, vl⟩ := HB.out
  clear vf0 vf1 vf2 vf3 vf4 vf5 vf6 vf7 vf8 vf9 vf10
  go_wp2_with fail
  refine (C1.out _ HN.out).mono ?_
  rintro e w5 ⟨rfl, ho⟩
  clear vc0 vc1 vc2 vc3 vc4 vc5 vc6 vc7 vc8 vc9 vc10 vl
  have HB := hide (HB.out.more ho)
  have HN := hide (HN.out.more ho)
  have HO := hide (o2 HO.out ho)
  clear ho
  obtain ⟨vc0, vc1, vc2, vc3, vc4, vc5, vc6, vc7, vc8, vc9, vc10, vf0, vf1, vf2, vf3, vf4, vf5, vf6, vf7, vf8, vf9, vf10, vl⟩ := HB.out
  clear vf0 vf1 vf2 vf3 vf4 vf5 vf6 vf7 vf8 vf9 vf10
  go_wp2_with fail
  refine (C2.out _ HN.out).mono ?_
  rintro e w6 ⟨rfl, ho⟩
  clear vc0 vc1 vc2 vc3 vc4 vc5 vc6 vc7 vc8 vc9 vc10 vl
  have HB := hide (HB.out.more ho)
  have HN := hide (HN.out.more ho)
  have HO := hide (o2 HO.out ho)
  clear ho
  obtain ⟨vc0, vc1, vc2, vc3, vc4, vc5, vc6, vc7, vc8, vc9, vc10, vf0, vf1, vf2, vf3, vf4, vf5, vf6, vf7, vf8, vf9, vf10, vl⟩ := HB.out
  clear vf0 vf1 vf2 vf3 vf4 vf5 vf6 vf7 vf8 vf9 vf10
  go_wp2_with fail
  refine (C3.out _ HN.out).mono ?_
  rintro e w7 ⟨rfl, ho⟩
  clear vc0 vc1 vc2 vc3 vc4 vc5 vc6 vc7 vc8 vc9 vc10 vl
  have HB := hide (HB.out.more ho)
  have HN := hide (HN.out.more ho)
  have HO := hide (o2 HO.out ho)
  clear ho
  obtain ⟨vc0, vc1, vc2, vc3, vc4, vc5, vc6, vc7, vc8, vc9, vc10, vf0, vf1, vf2, vf3, vf4, vf5, vf6, vf7, vf8, vf9, vf10, vl⟩ := HB.out
  clear vf0 vf1 vf2 vf3 vf4 vf5 vf6 vf7 vf8 vf9 vf10
  go_wp2_with fail
  refine (C4.out _ HN.out).mono ?_
  rintro e w8 ⟨rfl, ho⟩
  clear vc0 vc1 vc2 vc3 vc4 vc5 vc6 vc7 vc8 vc9 vc10 vl
  have HB := hide (HB.out.more ho)
  have HN := hide (HN.out.more ho)
  have HO := hide (o2 HO.out ho)
  clear ho
  obtain ⟨vc0, vc1, vc2, vc3, vc4, vc5, vc6, vc7, vc8, vc9, vc10, vf0, vf1, vf2, vf3, vf4, vf5, vf6, vf7, vf8, vf9, vf10, vl⟩ := HB.out
  clear vf0 vf1 vf2 vf3 vf4 vf5 vf6 vf7 vf8 vf9 vf10
  go_wp2_with fail
  refine (C5.out _ HN.out).mono ?_
  rintro e w9 ⟨rfl, ho⟩
  clear vc0 vc1 vc2 vc3 vc4 vc5 vc6 vc7 vc8 vc9 vc10 vl
  have HB := hide (HB.out.more ho)
  have HN := hide (HN.out.more ho)
  have HO := hide (o2 HO.out ho)
  clear ho
  have hoE := o2 (onlyA w9 (.cells #[.int .i64 4] 3)) (onlyA _ (.cells #[.int .i64 3] 3))
  obtain ⟨W3, hW3⟩ : ∃ W, ((w9.alloc (.cells #[.int .i64 4] 3)).alloc (.cells #[.int .i64 3] 3)).alloc (.cells #[.int .i64 5, .slice (some ⟨w9.heap.size + 1, 0, none⟩) 1 1] 27) = W := ⟨_, rfl⟩
  have hoF : Only (fun _ => False) w9 W3 := by rw [← hW3]; exact o2 hoE (onlyA _ _)
  have hR : Ns W3 w9.heap.size (some ⟨w9.heap.size, 0, none⟩) [4] := by rw [← hW3]; exact (Ns.one w9 4 (i64 (by omega) (by omega))).more (o2 (onlyA _ _) (onlyA _ _))
  have hA : Ns W3 (w9.heap.size + 1) (some ⟨w9.heap.size + 1, 0, none⟩) [3] := by
    have := (Ns.one (w9.alloc (.cells #[.int .i64 4] 3)) 3 (i64 (by omega) (by omega))).more (onlyA _ (.cells #[.int .i64 5, .slice (some ⟨w9.heap.size + 1, 0, none⟩) 1 1] 27))
    rw [← hW3]
    simpa using this
  have hd := cell_new2 ((w9.alloc (.cells #[.int .i64 4] 3)).alloc (.cells #[.int .i64 3] 3)) (.int .i64 5) (.slice (some ⟨w9.heap.size + 1, 0, none⟩) 1 1) 27 (w9.heap.size + 2) (by simp)
  rw [hW3] at hd
  have hS : Sps W3 (w9.heap.size + 2) (some ⟨w9.heap.size + 2, 0, none⟩) [(5, [3])] :=
    ⟨fun _ => ⟨0, rfl, fun j hj => by
      match j, hj with
      | 0, _ => exact ⟨hd.1, w9.heap.size + 1, some ⟨w9.heap.size + 1, 0, none⟩, 1, hd.2, hA, fun h => by cases h⟩⟩, fun s hs => by simp at hs; subst hs; exact i64 (by show (0 : Int) ≤ 5; omega) (by show (5 : Int) ≤ 1024; omega), fun _ => by rw [← hW3]; simp, by simp⟩
  have HH := hide (horizon_any W3 16 5 w9.heap.size 1 (some ⟨w9.heap.size, 0, none⟩) [4] (w9.heap.size + 2) 1 (some ⟨w9.heap.size + 2, 0, none⟩) [(5, [3])] (i64 (by omega) (by omega)) (i64 (by omega) (by omega)) hR (fun h => by cases h) hS (fun s hs x hx => by simp at hs; subst hs; simp at hx; subst hx; exact i64 (by omega) (by omega)) (by show (4 : Nat) ≤ _; omega))
  rw [shor] at HH
  simp only [List.length_cons, List.length_nil, Nat.zero_add] at HH
  have HO := hide (o2 HO.out hoF)
  clear hoE hoF hR hA hS hd
  go_wp2_with fail
  refine HH.out.mono ?_
  rintro e w10 ⟨rfl, ho⟩
  have HO := hide (o2 HO.out ho)
  clear ho hW3
  go_wp2_with fail
  go_ret
  exact ⟨rfl, HO.out⟩
end Go.Proofs.YtolfmodgkkjnbaaGreat
