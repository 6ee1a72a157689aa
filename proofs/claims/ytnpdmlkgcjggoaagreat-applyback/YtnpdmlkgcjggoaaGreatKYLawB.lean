/- ApplyBack's walk. -/
import Derived.Test.YtnpdmlkgcjggoaaGreatKYBackP
import Derived.Test.YtnpdmlkgcjggoaaGreatK48
namespace Go.Proofs.YtnpdmlkgcjggoaaGreat
open Go.RowKit

/-- Where a record's lists lie that has no images any more. -/
def Loc.bare (L : Loc) : Loc := ⟨L.a1, L.a2, none, L.a4, L.a5, L.c1, L.c2, 0, L.c4, L.c5, L.b1, L.b2, L.b3, L.b4, L.b5⟩
theorem RcAt.bare {w : World} {R : Rc} {L : Loc} (h : RcAt w R L) : RcAt w R.bare L.bare := ⟨h.slots, h.more, ⟨fun _ => False, Ims.nil _ _ _ _⟩, h.pages, h.txns, h.f1, h.f2, h.data, h.kind⟩
theorem bk_new2 (w : World) (v0 v1 v2 v3 v4 v5 : Value) (R : Rc) (L : Loc) : Pag ((w.alloc (.cells #[v0, v1, v2, v3, v4, v5] 24)).alloc (.cells (R.cells L) 33)) w.heap.size v0 v1 v2 v3 v4 v5 ∧ Rb ((w.alloc (.cells #[v0, v1, v2, v3, v4, v5] 24)).alloc (.cells (R.cells L) 33)) (w.heap.size + 1) R L ∧ Only (fun _ => False) w ((w.alloc (.cells #[v0, v1, v2, v3, v4, v5] 24)).alloc (.cells (R.cells L) 33)) := by
  have e := Rb.new (w.alloc (.cells #[v0, v1, v2, v3, v4, v5] 24)) R L
  rw [World.size_alloc] at e
  exact ⟨(Pag.new w _ _ _ _ _ _).more (onlyA _ _), e, o2 (onlyA _ _) (onlyA _ _)⟩
/-- The variables of ApplyBack: the page, the record, the record that undoes it. -/
structure Bv (w W : World) (p : Pg) (ao : Option Addr) (cp : Nat) (R U : Rc) (L M : Loc) (b : Nat) : Prop where
  pag : Pag W w.heap.size (.int .i64 p.lsn) (.int .i64 p.kind) (.int .i64 p.level) (.int .i64 p.right) (.string p.high) (.slice ao p.items.length cp)
  rb : Rb W (w.heap.size + 1) R L
  ub : Rb W b U M
  only : Only (fun _ => False) w W
  lt : w.heap.size + 1 < b
theorem Bv.more {w W W' : World} {p : Pg} {ao : Option Addr} {cp : Nat} {R U : Rc} {L M : Loc} {b : Nat} (x : Bv w W p ao cp R U L M b) (ho : Only (fun _ => False) W W') : Bv w W' p ao cp R U L M b := ⟨x.pag.more ho, x.rb.more ho, x.ub.more ho, o2 x.only ho, x.lt⟩
set_option maxRecDepth 100000 in
set_option maxHeartbeats 1600000 in
/-- Of a record that can't be undone. -/
theorem back_law_no (w : World) (p : Pg) (ao : Option Addr) (cp : Nat) (R : Rc) (L : Loc) (later : Int) (hk : undK R.kind = false) :
    Calls Tryz.prog 4 #[.agg #[.int .i64 p.lsn, .int .i64 p.kind, .int .i64 p.level, .int .i64 p.right, .string p.high, .slice ao p.items.length cp], .agg (R.cells L), .int .i64 later] w fun e w' => e = .returned (.bool true) ∧ Only (fun _ => False) w w' := by
  have HX := hide (bk_new2 w (.int .i64 p.lsn) (.int .i64 p.kind) (.int .i64 p.level) (.int .i64 p.right) (.string p.high) (.slice ao p.items.length cp) R L)
  have HAW := hide (fun W => apawake_any W)
  have HBK : Hid (∀ W, Calls Tryz.prog 10 #[.agg (R.cells L)] W fun e w' => e = .returned (.tuple #[.agg (noR.cells noL), .int .i64 160]) ∧ Only (fun _ => False) W w') := fun W => by
    have := back_any W R L
    unfold bkA at this
    rw [hk] at this
    exact this
  have HUN : Hid (∀ W, Calls Tryz.prog 11 #[.agg (R.cells L)] W fun e w' => e = .returned (.bool false) ∧ Only (fun _ => False) W w') := fun W => by
    have := undoes_any W R L
    rw [hk] at this
    exact this
  obtain ⟨M, hM⟩ : ∃ L, noL = L := ⟨_, rfl⟩
  have HZN : Hid (∀ W : World, Rb (W.alloc (.cells #[.int .i64 0, .int .i64 0, .int .i64 0, .int .u8 0, .int .i64 0, .int .i64 0, .int .i64 0, .int .i64 0, .int .i64 0, .int .i64 0, .string ⟨#[]⟩, .slice none 0 0, .slice none 0 0, .slice none 0 0, .slice none 0 0, .slice none 0 0] 33)) W.heap.size noR M) := fun W => by rw [← hM]; exact Rb.new W noR noL
  rw [hM] at HBK
  obtain ⟨N, hN⟩ : ∃ R, noR = R := ⟨_, rfl⟩
  rw [hN] at HBK HZN
  have HAL : Hid (∀ (W : World), Only (fun _ => False) W (W.alloc (.cells #[.int .i64 0, .int .i64 0, .int .i64 0, .int .u8 0, .int .i64 0, .int .i64 0, .int .i64 0, .int .i64 0, .int .i64 0, .int .i64 0, .string ⟨#[]⟩, .slice none 0 0, .slice none 0 0, .slice none 0 0, .slice none 0 0, .slice none 0 0] 33))) := fun W => onlyA W _
  clear hM hN hk
  go_enter Tryz.func4, Tryz.ntmps4
  go_upto_region 1 with fail
  obtain ⟨W0, hW0⟩ : ∃ x, (w.alloc (.cells #[.int .i64 p.lsn, .int .i64 p.kind, .int .i64 p.level, .int .i64 p.right, .string p.high, .slice ao p.items.length cp] 24)).alloc (.cells (R.cells L) 33) = x := ⟨_, rfl⟩
  rw [hW0] at HX ⊢
  clear hW0
  go_wp2_with (refine wpList_load_rc rfl (.tmp 4) rfl (w.heap.size + 1) rfl R L HX.out.2.1.range ?_; go_frame)
  refine (HBK.out _).mono ?_
  rintro e w1 ⟨rfl, ho1⟩
  have HR1 := hide ((HX.out.2.1.more ho1).more (HAL.out w1))
  have HO1 := hide (o2 (o2 HX.out.2.2 ho1) (HAL.out w1))
  have HLT : Hid (w.heap.size + 1 < w1.heap.size) := Nat.lt_of_lt_of_le HX.out.2.1.lt ho1.size
  clear ho1 HX HBK
  go_upto_region 2 with (refine wpList_put_rc rfl (.tmp 7) (.tmp 21) rfl w1.heap.size rfl N N M M rfl (HZN.out w1) (fun W2 HS => ?_); go_frame)
  have HR2 := hide (HR1.out.kept HS.out.2 (by have := HLT.out; omega))
  have HO2 := hide (HO1.out.trans HS.out.2 (fun i hi e => by have := HLT.out; omega))
  clear HS HR1 HO1 HZN HAL
  obtain ⟨r0, r1, r2, r3, r4, r5, r6, r7, r8, r9, r10, r11, r12, r13, r14, r15, _⟩ := HR2.out.bx
  go_wp2_with fail
  refine (show Calls Tryz.prog 11 #[.agg (R.cells L)] W2 _ from (HUN.out W2).mono ?_)
  rintro e w3 ⟨rfl, ho3⟩
  have HO3 := hide (o2 HO2.out ho3)
  clear ho3 r0 r1 r2 r3 r4 r5 r6 r7 r8 r9 r10 r11 r12 r13 r14 r15
  go_wp2_with fail
  refine (HAW.out _).mono ?_
  rintro e w4 ⟨rfl, ho4⟩
  go_wp2_with fail
  go_ret
  exact ⟨rfl, o2 HO3.out ho4⟩
set_option maxRecDepth 100000 in
set_option maxHeartbeats 1200000 in
/-- Of a record that can be undone. -/
theorem back_law_yes (w : World) (p : Pg) (B : Nat) (ao : Option Addr) (cp : Nat) (R : Rc) (L : Loc) (later : Int) (h : Arg w 16 p B ao cp R L) (hk : undK R.kind = true) :
    Calls Tryz.prog 4 #[.agg #[.int .i64 p.lsn, .int .i64 p.kind, .int .i64 p.level, .int .i64 p.right, .string p.high, .slice ao p.items.length cp], .agg (R.cells L), .int .i64 later] w fun e w' => e = .returned (.bool true) ∧ Only (fun _ => False) w w' := by
  have HX := hide (bk_new2 w (.int .i64 p.lsn) (.int .i64 p.kind) (.int .i64 p.level) (.int .i64 p.right) (.string p.high) (.slice ao p.items.length cp) R L)
  have HAW := hide (fun W => apawake_any W)
  have HBK : Hid (∀ W, Calls Tryz.prog 10 #[.agg (R.cells L)] W fun e w' => e = .returned (.tuple #[.agg ((bkR R).cells noL), .int .i64 0]) ∧ Only (fun _ => False) W w') := fun W => by
    have := back_any W R L
    unfold bkA at this
    rw [hk] at this
    exact this
  have HRB : Hid (∀ W, Only (fun _ => False) w W → Rk W 16 R.bare L.bare) := fun W ho => ⟨(h.at_.go ho).bare, h.m, h.rk.xid, h.rk.new⟩
  have HD1 : Hid (∀ W, Only (fun _ => False) w W → Calls Tryz.prog 7 #[.int .i64 16, .agg #[.int .i64 p.lsn, .int .i64 p.kind, .int .i64 p.level, .int .i64 p.right, .string p.high, .slice ao p.items.length cp], .int .i64 R.page, .agg (R.bare.cells L.bare)] W fun e w' => Res W w' e (doP 16 p R.page R.bare).1 (doP 16 p R.page R.bare).2) := fun W ho => do_any W 16 p.lsn p.kind p.level p.right R.page p.high B cp ao p.items R.bare L.bare ⟨h.pn.strs.more ho, h.pn.fit, h.pn.len, h.pn.high, HRB.out W ho⟩
  have hpw : Pw (doP 16 p R.page R.bare).1 := pw_do 16 h.pw R.page R.bare ⟨fun i hi => by cases hi⟩
  have hI0 : I64 0 := by unfold I64; decide
  have HD2 : Hid (∀ W B2 cp2 ao2, Strs W B2 ao2 (doP 16 p R.page R.bare).1.items → Fit ao2 (doP 16 p R.page R.bare).1.items.length cp2 → Calls Tryz.prog 7 #[.int .i64 16, .agg #[.int .i64 (doP 16 p R.page R.bare).1.lsn, .int .i64 (doP 16 p R.page R.bare).1.kind, .int .i64 (doP 16 p R.page R.bare).1.level, .int .i64 (doP 16 p R.page R.bare).1.right, .string (doP 16 p R.page R.bare).1.high, .slice ao2 (doP 16 p R.page R.bare).1.items.length cp2], .int .i64 R.page, .agg ((R.undo later).cells noL)] W fun e w' => Res W w' e (doP 16 (doP 16 p R.page R.bare).1 R.page (R.undo later)).1 (doP 16 (doP 16 p R.page R.bare).1 R.page (R.undo later)).2) := fun W B2 cp2 ao2 hS hF =>
    do_any W 16 _ _ _ _ R.page _ B2 cp2 ao2 _ (R.undo later) noL ⟨hS, hF, hpw.len, hpw.high, ⟨rc_at W (R.undo later) rfl rfl rfl rfl rfl (by show (⟨#[]⟩ : ByteArray).size ≤ _; decide) (by show 0 ≤ (6 : Int) ∧ (6 : Int) ≤ 255; decide), h.m, h.rk.xid, (by show I64 (if R.kind = 2 then R.old else 0); have := h.n.old; exact (if q : R.kind = 2 then by rw [if_pos q]; exact ⟨this.1, by omega⟩ else by rw [if_neg q]; exact hI0))⟩⟩
  have HSP := hide (fun W (ho : Only (fun _ => False) w W) => h.pn.strs.more ho)
  have HM : Hid (R.kind = 2 → p.lsn < R.lsn → R.lsn < later → (doP 16 p R.page R.bare).2 = 0 → ¬ (R.old = 0 ∧ R.new = 0) → doP 16 (doP 16 p R.page R.bare).1 R.page (R.undo later) = (p.at later, 0)) := fun q1 q2 q3 q4 q5 => back_mark q1 q2 q3 q4 q5
  have HI := hide (fun (q1 : R.kind = 1) (q2 : p.lsn < R.lsn) (q3 : R.lsn < later) (q4 : (doP 16 p R.page R.bare).2 = 0) => back_ins q1 q2 q3 q4)
  have HKK : Hid (R.kind = 1 ∨ R.kind = 2) := by unfold Hid; unfold undK at hk; rwa [decide_eq_true_iff] at hk
  obtain ⟨A, hA⟩ : ∃ A, (doP 16 p R.page R.bare).1 = A := ⟨_, rfl⟩
  obtain ⟨C, hC⟩ : ∃ C, (doP 16 p R.page R.bare).2 = C := ⟨_, rfl⟩
  rw [hA, hC] at HD1
  rw [hA] at HD2 HM HI
  rw [hC] at HM HI
  obtain ⟨Y, hY⟩ : ∃ Y, doP 16 A R.page (R.undo later) = Y := ⟨_, rfl⟩
  rw [hY] at HD2 HM HI
  obtain ⟨M, hMM⟩ : ∃ L, noL = L := ⟨_, rfl⟩
  have HZN : Hid (∀ W : World, Rb (W.alloc (.cells #[.int .i64 0, .int .i64 0, .int .i64 0, .int .u8 0, .int .i64 0, .int .i64 0, .int .i64 0, .int .i64 0, .int .i64 0, .int .i64 0, .string ⟨#[]⟩, .slice none 0 0, .slice none 0 0, .slice none 0 0, .slice none 0 0, .slice none 0 0] 33)) W.heap.size noR M) := fun W => by rw [← hMM]; exact Rb.new W noR noL
  have HU1 : Hid (((bkR R).cl M).set 0 (.int .i64 later) = (R.undo later).cl M) := rfl
  rw [hMM] at HBK HD2
  obtain ⟨N, hN⟩ : ∃ R, noR = R := ⟨_, rfl⟩
  rw [hN] at HZN
  have HAL : Hid (∀ (W : World), Only (fun _ => False) W (W.alloc (.cells #[.int .i64 0, .int .i64 0, .int .i64 0, .int .u8 0, .int .i64 0, .int .i64 0, .int .i64 0, .int .i64 0, .int .i64 0, .int .i64 0, .string ⟨#[]⟩, .slice none 0 0, .slice none 0 0, .slice none 0 0, .slice none 0 0, .slice none 0 0] 33))) := fun W => onlyA W _
  obtain ⟨U, hU⟩ : ∃ U, bkR R = U := ⟨_, rfl⟩
  rw [hU] at HBK HU1
  obtain ⟨V, hV⟩ : ∃ V, R.undo later = V := ⟨_, rfl⟩
  have HVN : Hid (V.next = R.prev ∧ V.xid = R.xid ∧ V.lsn = later) := by unfold Hid; rw [← hV]; exact ⟨rfl, rfl, rfl⟩
  rw [hV] at HD2 HU1
  obtain ⟨RB, hRB⟩ : ∃ V, R.bare = V := ⟨_, rfl⟩
  obtain ⟨LB, hLB⟩ : ∃ V, L.bare = V := ⟨_, rfl⟩
  have HB1 : Hid ((R.cl L).set 13 (.slice none 0 0) = RB.cl LB) := by unfold Hid; rw [← hRB, ← hLB]; rfl
  have HBE : Hid (RB.lsn = R.lsn ∧ RB.prev = R.prev ∧ RB.kind = R.kind ∧ RB.xid = R.xid ∧ RB.page = R.page ∧ RB.slot = R.slot ∧ RB.old = R.old ∧ RB.new = R.new ∧ RB.data = R.data) := by unfold Hid; rw [← hRB]; exact ⟨rfl, rfl, rfl, rfl, rfl, rfl, rfl, rfl, rfl⟩
  rw [hRB, hLB] at HD1
  clear hA hC hY hMM hN hU hV hRB hLB hk h hpw hI0 HRB
  go_enter Tryz.func4, Tryz.ntmps4
  go_upto_region 1 with fail
  obtain ⟨W0, hW0⟩ : ∃ x, (w.alloc (.cells #[.int .i64 p.lsn, .int .i64 p.kind, .int .i64 p.level, .int .i64 p.right, .string p.high, .slice ao p.items.length cp] 24)).alloc (.cells (R.cells L) 33) = x := ⟨_, rfl⟩
  rw [hW0] at HX ⊢
  clear hW0
  go_wp2_with (refine wpList_load_rc rfl (.tmp 4) rfl (w.heap.size + 1) rfl R L HX.out.2.1.range ?_; go_frame)
  refine (HBK.out _).mono ?_
  rintro e w1 ⟨rfl, ho1⟩
  have HP1 := hide ((HX.out.1.more ho1).more (HAL.out w1))
  have HR1 := hide ((HX.out.2.1.more ho1).more (HAL.out w1))
  have HO1 := hide (o2 (o2 HX.out.2.2 ho1) (HAL.out w1))
  have HLT : Hid (w.heap.size + 1 < w1.heap.size) := Nat.lt_of_lt_of_le HX.out.2.1.lt ho1.size
  clear ho1 HX HBK
  go_upto_region 2 with (refine wpList_put_rc rfl (.tmp 7) (.tmp 21) rfl w1.heap.size rfl N U M M rfl (HZN.out w1) (fun W2 HS => ?_); go_frame)
  have HB2 : Hid (Bv w W2 p ao cp R U L M w1.heap.size) := ⟨HP1.out.kept HS.out.2 (by have := HLT.out; omega), HR1.out.kept HS.out.2 (by have := HLT.out; omega), HS.out.1, HO1.out.trans HS.out.2 (fun i hi e => by have := HLT.out; omega), HLT.out⟩
  obtain ⟨b7, hb7⟩ : ∃ b, w1.heap.size = b := ⟨_, rfl⟩
  rw [hb7] at HB2 ⊢
  clear HS HP1 HR1 HO1 HZN HAL hb7 HLT
  have r13 := HB2.out.rb.bx.c13
  have f13 := HB2.out.rb.frozen 13 (by omega)
  have hs0 := Only.setCell (S := fun j => j = w.heap.size + 1) W2 ⟨w.heap.size + 1, 13, none⟩ (.slice none 0 0) rfl
  have HB3 : Hid (Bv w (W2.setCell ⟨w.heap.size + 1, 13, none⟩ (.slice none 0 0)) p ao cp RB U LB M b7) := ⟨HB2.out.pag.kept hs0 (by omega), HB2.out.rb.one 13 (.slice none 0 0) (by omega) HB1.out, HB2.out.ub.kept hs0 (by have := HB2.out.lt; omega), HB2.out.only.trans hs0 (fun i hi e => by omega), HB2.out.lt⟩
  go_upto_region 5 with fail
  obtain ⟨W3, hW3⟩ : ∃ x, W2.setCell ⟨w.heap.size + 1, 13, none⟩ (.slice none 0 0) = x := ⟨_, rfl⟩
  rw [hW3] at HB3 ⊢
  clear hW3 hs0 r13 f13 HB2 HB1
  obtain ⟨p0, p1, p2, p3, p4, p5, _⟩ := HB3.out.pag
  have r5 := HB3.out.rb.bx.c5
  rw [HBE.out.2.2.2.2.1] at r5
  go_wp2_with (refine wpList_load_rc rfl (.tmp 4) rfl (w.heap.size + 1) rfl RB LB HB3.out.rb.range ?_; go_frame)
  refine (HD1.out _ HB3.out.only).mono ?_
  rintro e w4 ⟨B4, ao4, cp4, rfl, hS4, hF4, ho4, hB4⟩
  have HA4 := hide (onlyA w4 (.cells #[.int .i64 A.lsn, .int .i64 A.kind, .int .i64 A.level, .int .i64 A.right, .string A.high, .slice ao4 A.items.length cp4] 24))
  have HB4 := hide ((HB3.out.more ho4).more HA4.out)
  have HQ4 := hide (Pag.new w4 (.int .i64 A.lsn) (.int .i64 A.kind) (.int .i64 A.level) (.int .i64 A.right) (.string A.high) (.slice ao4 A.items.length cp4))
  have HS4 := hide (hS4.more HA4.out)
  have HF4 := hide hF4
  have HL9 : Hid (b7 < w4.heap.size) := Nat.lt_of_lt_of_le HB3.out.ub.lt ho4.size
  have HLS : Hid (0 < A.items.length → b7 < B4) := fun h0 => Nat.lt_of_lt_of_le HB3.out.ub.lt (hB4 h0)
  clear p0 p1 p2 p3 p4 p5 r5 hS4 hF4 ho4 hB4 HB3 HA4 HD1
  go_upto_region 6 with fail
  obtain ⟨b9, hb9⟩ : ∃ b, w4.heap.size = b := ⟨_, rfl⟩
  rw [hb9] at HQ4 HL9 ⊢
  clear hb9
  obtain ⟨w5, hw5⟩ : ∃ x, w4.alloc (.cells #[.int .i64 A.lsn, .int .i64 A.kind, .int .i64 A.level, .int .i64 A.right, .string A.high, .slice ao4 A.items.length cp4] 24) = x := ⟨_, rfl⟩
  rw [hw5] at HB4 HQ4 HS4 ⊢
  clear hw5
  have p0 := HB4.out.pag.c0
  have r0 := HB4.out.rb.bx.c0
  rw [HBE.out.1] at r0
  have HEND : Hid (∀ W, Only (fun _ => False) w W → Calls Tryz.prog 8 #[] W fun e w' => e = .returned (.bool true) ∧ Only (fun _ => False) w w') := fun W ho => (HAW.out W).mono (fun e w' q => ⟨q.1, o2 ho q.2⟩)
  by_cases hC : C = 0
  · by_cases hlt : p.lsn < R.lsn
    · by_cases hla : R.lsn < later
      · subst hC
        have hn1 : ¬ R.lsn ≤ p.lsn := by omega
        have hn2 : ¬ later ≤ R.lsn := by omega
        have u0 := HB4.out.ub.bx.c0
        have f0 := HB4.out.ub.frozen 0 (by omega)
        have hs0 := Only.setCell (S := fun j => j = b7) w5 ⟨b7, 0, none⟩ (.int .i64 later) rfl
        have HB6 : Hid (Bv w (w5.setCell ⟨b7, 0, none⟩ (.int .i64 later)) p ao cp RB V LB M b7) := ⟨HB4.out.pag.kept hs0 (by have := HB4.out.lt; omega), HB4.out.rb.kept hs0 (by have := HB4.out.lt; omega), HB4.out.ub.one 0 (.int .i64 later) (by omega) HU1.out, HB4.out.only.trans hs0 (fun i hi e => by have := HB4.out.lt; omega), HB4.out.lt⟩
        have HS6 := hide (HS4.out.kept hs0 (fun h0 e => by have := HLS.out h0; omega))
        have HQ6 := hide (HQ4.out.kept hs0 (by have := HL9.out; omega))
        go_upto_region 9 with fail
        obtain ⟨w6, hw6⟩ : ∃ x, w5.setCell ⟨b7, 0, none⟩ (.int .i64 later) = x := ⟨_, rfl⟩
        rw [hw6] at HB6 HS6 HQ6 ⊢
        clear hw6 hs0 u0 f0 p0 r0 HB4 HS4 HQ4 HU1 HLS HL9 hn1 hn2
        obtain ⟨q0, q1, q2, q3, q4, q5, _⟩ := HQ6.out
        have r5 := HB6.out.rb.bx.c5
        rw [HBE.out.2.2.2.2.1] at r5
        go_wp2_with (refine wpList_load_rc rfl (.tmp 7) rfl b7 rfl V M HB6.out.ub.range ?_; go_frame)
        refine (HD2.out _ _ _ _ HS6.out HF4.out).mono ?_
        rintro e w7 ⟨B7, ao7, cp7, rfl, hS7, hF7, ho7, _⟩
        have HA7 := hide (onlyA w7 (.cells #[.int .i64 Y.1.lsn, .int .i64 Y.1.kind, .int .i64 Y.1.level, .int .i64 Y.1.right, .string Y.1.high, .slice ao7 Y.1.items.length cp7] 24))
        have HB7 := hide ((HB6.out.more ho7).more HA7.out)
        have HT7 := hide (Pag.new w7 (.int .i64 Y.1.lsn) (.int .i64 Y.1.kind) (.int .i64 Y.1.level) (.int .i64 Y.1.right) (.string Y.1.high) (.slice ao7 Y.1.items.length cp7))
        have HS7 := hide (hS7.more HA7.out)
        have HL7 : Hid (b7 < w7.heap.size) := Nat.lt_of_lt_of_le HB6.out.ub.lt ho7.size
        have HN7 : Hid (0 < Y.1.items.length → B7 < w7.heap.size) := fun h0 => hS7.lt h0
        clear q0 q1 q2 q3 q4 q5 r5 hS7 hF7 ho7 HB6 HS6 HQ6 HF4 HA7 HD2
        go_upto_region 10 with fail
        obtain ⟨b11, hb11⟩ : ∃ b, w7.heap.size = b := ⟨_, rfl⟩
        rw [hb11] at HT7 HL7 HN7 ⊢
        clear hb11
        obtain ⟨w8, hw8⟩ : ∃ x, w7.alloc (.cells #[.int .i64 Y.1.lsn, .int .i64 Y.1.kind, .int .i64 Y.1.level, .int .i64 Y.1.right, .string Y.1.high, .slice ao7 Y.1.items.length cp7] 24) = x := ⟨_, rfl⟩
        rw [hw8] at HB7 HT7 HS7 ⊢
        clear hw8
        have r1 := HB7.out.rb.bx.c1
        have r3 := HB7.out.rb.bx.c3
        have r4 := HB7.out.rb.bx.c4
        have r7 := HB7.out.rb.bx.c7
        have r8 := HB7.out.rb.bx.c8
        rw [HBE.out.2.1] at r1
        rw [HBE.out.2.2.1] at r3
        rw [HBE.out.2.2.2.1] at r4
        rw [HBE.out.2.2.2.2.2.2.1] at r7
        rw [HBE.out.2.2.2.2.2.2.2.1] at r8
        have u2 := HB7.out.ub.bx.c2
        have u4 := HB7.out.ub.bx.c4
        rw [HVN.out.1] at u2
        rw [HVN.out.2.1] at u4
        rcases HKK.out with hk1 | hk2
        · have HI2 := hide (HI.out hk1 hlt hla (by first | trivial | rfl))
          rw [hk1] at r3
          clear HI HM HKK hk1
          obtain ⟨i, t, X, hs, hdt, hkk, hi, hlen, hat, hoth, hY⟩ := HI2.out
          subst hY
          have HD : Hid (∀ W, Calls Tryz.prog 12 #[.string R.data] W fun e w' => e = .returned (.tuple #[.agg #[.int .i64 t.xmin, .int .i64 t.xmax, .bool t.frozen, .string t.key, .string t.value], .int .i64 0]) ∧ Only (fun _ => False) W w') := fun W => by
            have := udecode_any R.data W
            rw [hdt] at this
            exact this
          have HKY : Hid (∀ W, Calls Tryz.prog 13 #[.string (str (dlay t.key))] W fun e w' => e = .returned (.tuple #[.string t.key, .bool true]) ∧ Only (fun _ => False) W w') := fun W => by
            have h1 := ukey_any (str (dlay t.key)) W
            have h2 : keyT (bl (str (dlay t.key))) = some t.key := by
              rw [bl_str]
              unfold keyT
              rw [dead_dec (dead_lay hkk), dead_lay hkk]
            rw [h2] at h1
            exact h1
          have HST : Hid (∀ W, Calls Tryz.prog 14 #[.string (str (dlay t.key))] W fun e w' => e = .returned (.int .u8 2) ∧ Only (fun _ => False) W w') := fun W => by
            have h1 := ustate_any (str (dlay t.key)) W
            have h2 : stT (bl (str (dlay t.key))) = 2 := by
              rw [bl_str]
              unfold stT
              rw [dead_dec (dead_lay hkk), dead_lay hkk]
              rfl
            rw [h2] at h1
            exact h1
          have HT8 : Hid (Pag w8 b11 (.int .i64 later) (.int .i64 p.kind) (.int .i64 p.level) (.int .i64 p.right) (.string p.high) (.slice ao7 X.length cp7)) := HT7.out
          have HS8 : Hid (Strs w8 B7 ao7 X) := HS7.out
          have r6 := HB7.out.rb.bx.c6
          have r10 := HB7.out.rb.bx.c10
          rw [HBE.out.2.2.2.2.2.1, hs] at r6
          rw [HBE.out.2.2.2.2.2.2.2.2] at r10
          have t0 := HT8.out.c0
          have hXl := HS8.out.len
          have HOTH := hide hoth
          have HLEN := hide hlen
          obtain ⟨o7, rfl, hc7⟩ := HS8.out.at_ (by omega)
          have HCX : Hid (∀ j, ∀ q : j < X.length, ∀ W, Only (fun _ => False) w8 W → W.cell? ⟨B7, o7 + j, none⟩ = some (.string X[j])) := fun j q W ho => (ho.cell (p := ⟨B7, o7 + j, none⟩) (HS8.out.lt (by omega)) (fun h => h)).trans (hc7 j q)
          have HCI : Hid (∀ W, Only (fun _ => False) w8 W → W.cell? ⟨B7, o7 + i, none⟩ = some (.string (str (dlay t.key)))) := fun W ho => by rw [← hat hi]; exact HCX.out i hi W ho
          clear HI2 hdt hkk hlen hat hoth HT7 HS7 HN7 hc7
          obtain ⟨E, hE⟩ : ∃ E, str (dlay t.key) = E := ⟨_, rfl⟩
          rw [hE] at HKY HST HCI
          clear hE
          go_wp2_with fail
          refine (HD.out _).mono ?_
          rintro e w9 ⟨rfl, ho9⟩
          have HA9 := hide (onlyA w9 (.cells #[.int .i64 t.xmin, .int .i64 t.xmax, .bool t.frozen, .string t.key, .string t.value] 44))
          have HO9 := hide (o2 ho9 HA9.out)
          have HV9 := hide (Tb.new w9 t)
          clear ho9 r1 r3 r4 r7 r8 u2 u4 r6 r10 t0 HD
          go_upto_region 18 with fail
          obtain ⟨b13, hb13⟩ : ∃ b, w9.heap.size = b := ⟨_, rfl⟩
          rw [hb13] at HV9 ⊢
          clear hb13
          obtain ⟨wa, hwa⟩ : ∃ x, w9.alloc (.cells #[.int .i64 t.xmin, .int .i64 t.xmax, .bool t.frozen, .string t.key, .string t.value] 44) = x := ⟨_, rfl⟩
          rw [hwa] at HO9 HV9 ⊢
          clear hwa HA9
          have HBa := hide (HB7.out.more HO9.out)
          have HTa := hide (HT8.out.more HO9.out)
          have r6 := HBa.out.rb.bx.c6
          rw [HBE.out.2.2.2.2.2.1, hs] at r6
          have t5 := HTa.out.c5
          have p5 := HBa.out.pag.c5
          have ci := HCI.out _ HO9.out
          have hi0 : (0 : Int) ≤ (i : Int) := by omega
          have hin : ¬ (i : Int) < 0 := by omega
          have hi1 : (i : Int) < (X.length : Int) := by omega
          have hi2 : ¬ (X.length : Int) ≤ (i : Int) := by omega
          obtain ⟨m1, hm1⟩ : ∃ m1 : Nat, i + 1 = m1 := ⟨_, rfl⟩
          have hm2 : (i : Int) + 1 = (m1 : Int) := by omega
          have hm3 : IntKind.i64.wrap (m1 : Int) = (m1 : Int) := wraps_i64 _ (by omega) (by omega)
          have hmx : max (p.items.length : Int) (m1 : Int) = (X.length : Int) := by have := HLEN.out; omega
          clear HLEN hm1
          go_wp2_with fail
          refine (HKY.out _).mono ?_
          rintro e wb ⟨rfl, hob⟩
          have HOb := hide (o2 HO9.out hob)
          have HVb := hide (HV9.out.more hob)
          clear r6 t5 p5 ci hob HKY HBa HTa hm2 hm3 hmx
          have HBb := hide (HB7.out.more HOb.out)
          have HTb := hide (HT8.out.more HOb.out)
          have r6 := HBb.out.rb.bx.c6
          rw [HBE.out.2.2.2.2.2.1, hs] at r6
          have t5 := HTb.out.c5
          have ci := HCI.out _ HOb.out
          have v3 := HVb.out.c3
          go_wp2_with fail
          refine (HST.out _).mono ?_
          rintro e wc ⟨rfl, hoc⟩
          have HOc := hide (o2 HOb.out hoc)
          clear r6 t5 ci v3 hoc HST HBb HTb HCI
          go_wp2_with fail
          go_loopw [17] (fun x wr => ∃ (j : Nat), j ≤ p.items.length ∧ x = .int .i64 (j : Int) ∧ Hid (Only (fun _ => False) w8 wr)) (fun x _ => p.items.length - (intOf x).toNat)
          case atStart => exact ⟨0, Nat.zero_le _, rfl, HOc⟩
          case round =>
            clear HOc
            obtain ⟨j, hj, rfl, HOj⟩ := hrel
            have HBj := hide (HB7.out.more HOj.out)
            have HTj := hide (HT8.out.more HOj.out)
            have p5 := HBj.out.pag.c5
            by_cases hjl : j < p.items.length
            · have hjk : (j : Int) < (p.items.length : Int) := by omega
              have r6 := HBj.out.rb.bx.c6
              rw [HBE.out.2.2.2.2.2.1, hs] at r6
              have t5 := HTj.out.c5
              by_cases hji : j = i
              · subst hji
                have hb1 : ((j : Int) == (j : Int)) = true := by simp
                have hb2 : decide ((j : Int) = (j : Int)) = true := by simp
                go_upto_region 26 with fail
                go_region
                all_goals (
                  go_wp2_with fail
                  clear p5 r6 t5
                  go_roundw
                  case rel => exact ⟨j + 1, by omega, by go_num, hide (o2 HOj.out (Only.drew _ _))⟩
                  case measure => simp [intOf]; omega)
              · have hjn : ((j : Int) == (i : Int)) = false := by simp; omega
                have hjn2 : ¬ (j : Int) = (i : Int) := by omega
                have hjn3 : decide ((j : Int) = (i : Int)) = false := decide_eq_false hjn2
                have hjn4 : decide (j = i) = false := decide_eq_false hji
                have hjn5 : (j == i) = false := by simpa using hji
                have hjX : j < X.length := by
                  have := HOTH.out j hjl hji
                  exact (List.getElem?_eq_some_iff.1 this).1
                have hjx : (j : Int) < (X.length : Int) := by omega
                have hj0 : (0 : Int) ≤ (j : Int) := by omega
                have hxe : X[j] = p.items[j] := by
                  have := HOTH.out j hjl hji
                  rw [List.getElem?_eq_getElem hjX] at this
                  exact Option.some.inj this
                have cx := HCX.out j hjX _ HOj.out
                rw [hxe] at cx
                obtain ⟨po, hpo, hpc⟩ := (HSP.out _ HBj.out.only).at_ (by omega)
                have cp1 := hpc j hjl
                obtain ⟨it, hit⟩ : ∃ it, p.items[j] = it := ⟨_, rfl⟩
                rw [hit] at cx cp1
                have HC6 : Hid (∀ W, Only (fun _ => False) wr W → W.cell? ⟨w.heap.size + 1, 6, none⟩ = some (.int .i64 (i : Int))) := fun W ho => (ho.cell (p := ⟨w.heap.size + 1, 6, none⟩) HBj.out.rb.lt (fun h => h)).trans r6
                have HP5 : Hid (∀ W, Only (fun _ => False) wr W → W.cell? ⟨w.heap.size, 5, none⟩ = some (.slice (some ⟨B, po, none⟩) p.items.length cp)) := fun W ho => ((ho.cell (p := ⟨w.heap.size, 5, none⟩) HBj.out.pag.lt (fun h => h)).trans p5).trans (by rw [hpo])
                have HT5 : Hid (∀ W, Only (fun _ => False) wr W → W.cell? ⟨b11, 5, none⟩ = some (.slice (some ⟨B7, o7, none⟩) X.length cp7)) := fun W ho => (ho.cell (p := ⟨b11, 5, none⟩) HTj.out.lt (fun h => h)).trans t5
                have HX5 : Hid (∀ W, Only (fun _ => False) wr W → W.cell? ⟨B7, o7 + j, none⟩ = some (.string it)) := fun W ho => (ho.cell (p := ⟨B7, o7 + j, none⟩) (World.block_lt_of_cell? wr _ cx) (fun h => h)).trans cx
                have HI5 : Hid (∀ W, Only (fun _ => False) wr W → W.cell? ⟨B, po + j, none⟩ = some (.string it)) := fun W ho => (ho.cell (p := ⟨B, po + j, none⟩) (World.block_lt_of_cell? wr _ cp1) (fun h => h)).trans cp1
                go_upto_region 26 with fail
                clear hit hpc hxe p5 r6 t5 cx cp1
                refine wp_region_noPanic ?_
                refine wp_region_held_drew (S := fun W => Only (fun _ => False) wr W) (by kernel_rfl) (Only.drew _ wr) (fun hHeld => ?_)
                refine wpAnyH_take (i := 0) (oi := { dst := some 183, op := Op.move (Operand.tmp 17), type := 3, pos := "law.go:109", after := #[], guard := none }) (v := .int .i64 (j : Int)) rfl (by kernel_rfl) (by kernel_rfl) (by kernel_rfl) (fun _ _ _ h => h) (Or.inl ⟨by rfl, fun w' hSw => by clear hSw; go_simp⟩) (by assumption) ?_
                simp only [Act.put, List.setIfInBounds_toArray, List.set_cons_zero, List.set_cons_succ]
                refine wpAnyH_take (i := 1) (oi := { dst := some 184, op := Op.fieldAddr 33 (Operand.tmp 4) 6, type := 0, pos := "law.go:109", after := #[], guard := none }) (v := .pointer (some ⟨(w.heap.size + 1), 6, none⟩)) rfl (by kernel_rfl) (by kernel_rfl) (by kernel_rfl) (fun _ _ _ h => h) (Or.inl ⟨by rfl, fun w' hSw => by clear hSw; go_simp⟩) (by assumption) ?_
                simp only [Act.put, List.setIfInBounds_toArray, List.set_cons_zero, List.set_cons_succ]
                refine wpAnyH_take (i := 2) (oi := { dst := some 185, op := Op.load 3 (Operand.tmp 184), type := 3, pos := "law.go:109", after := #[{ on := 1, ground := Ground.data }], guard := none }) (v := .int .i64 (i : Int)) rfl (by kernel_rfl) (by kernel_rfl) (by kernel_rfl) (fun _ _ _ h => h) (yieldsIf_load_cell (by rfl) 3 _ rfl _ rfl (fun W hW => HC6.out W hW) (fun W hc => ld_int hc)) (by assumption) ?_
                simp only [Act.put, List.setIfInBounds_toArray, List.set_cons_zero, List.set_cons_succ]
                refine wpAnyH_take (i := 3) (oi := { dst := some 186, op := Op.binOp BinOp.neq 3 (Operand.tmp 183) (Operand.tmp 185) 3, type := 4, pos := "law.go:109", after := #[{ on := 0, ground := Ground.data }, { on := 2, ground := Ground.data }], guard := none }) (v := .bool true) rfl (by kernel_rfl) (by kernel_rfl) (by kernel_rfl) (fun _ _ _ h => h) (Or.inl ⟨by rfl, fun w' hSw => by clear hSw; go_simp⟩) (by assumption) ?_
                simp only [Act.put, List.setIfInBounds_toArray, List.set_cons_zero, List.set_cons_succ]
                refine wpAnyH_take (i := 4) (oi := { dst := some 187, op := Op.move (Operand.tmp 186), type := 4, pos := "law.go:109", after := #[{ on := 3, ground := Ground.data }], guard := none }) (v := .bool true) rfl (by kernel_rfl) (by kernel_rfl) (by kernel_rfl) (fun _ _ _ h => h) (Or.inl ⟨by rfl, fun w' hSw => by clear hSw; go_simp⟩) (by assumption) ?_
                simp only [Act.put, List.setIfInBounds_toArray, List.set_cons_zero, List.set_cons_succ]
                refine wpAnyH_take (i := 5) (oi := { dst := some 188, op := Op.fieldAddr 24 (Operand.tmp 3) 5, type := 0, pos := "law.go:109", after := #[{ on := 4, ground := Ground.guard }], guard := some (4, true) }) (v := .pointer (some ⟨w.heap.size, 5, none⟩)) rfl (by kernel_rfl) (by kernel_rfl) (by kernel_rfl) (fun _ _ _ h => h) (Or.inl ⟨by rfl, fun w' hSw => by clear hSw; go_simp⟩) (by assumption) ?_
                simp only [Act.put, List.setIfInBounds_toArray, List.set_cons_zero, List.set_cons_succ]
                refine wpAnyH_take (i := 7) (oi := { dst := some 190, op := Op.move (Operand.tmp 17), type := 3, pos := "law.go:109", after := #[{ on := 4, ground := Ground.guard }], guard := some (4, true) }) (v := .int .i64 (j : Int)) rfl (by kernel_rfl) (by kernel_rfl) (by kernel_rfl) (fun _ _ _ h => h) (Or.inl ⟨by rfl, fun w' hSw => by clear hSw; go_simp⟩) (by assumption) ?_
                simp only [Act.put, List.setIfInBounds_toArray, List.set_cons_zero, List.set_cons_succ]
                refine wpAnyH_take (i := 10) (oi := { dst := some 193, op := Op.fieldAddr 24 (Operand.tmp 11) 5, type := 0, pos := "law.go:109", after := #[{ on := 4, ground := Ground.guard }], guard := some (4, true) }) (v := .pointer (some ⟨b11, 5, none⟩)) rfl (by kernel_rfl) (by kernel_rfl) (by kernel_rfl) (fun _ _ _ h => h) (Or.inl ⟨by rfl, fun w' hSw => by clear hSw; go_simp⟩) (by assumption) ?_
                simp only [Act.put, List.setIfInBounds_toArray, List.set_cons_zero, List.set_cons_succ]
                refine wpAnyH_take (i := 12) (oi := { dst := some 195, op := Op.move (Operand.tmp 17), type := 3, pos := "law.go:109", after := #[{ on := 4, ground := Ground.guard }], guard := some (4, true) }) (v := .int .i64 (j : Int)) rfl (by kernel_rfl) (by kernel_rfl) (by kernel_rfl) (fun _ _ _ h => h) (Or.inl ⟨by rfl, fun w' hSw => by clear hSw; go_simp⟩) (by assumption) ?_
                simp only [Act.put, List.setIfInBounds_toArray, List.set_cons_zero, List.set_cons_succ]
                refine wpAnyH_take (i := 6) (oi := { dst := some 189, op := Op.load 22 (Operand.tmp 188), type := 22, pos := "law.go:109", after := #[{ on := 5, ground := Ground.data }, { on := 4, ground := Ground.guard }], guard := some (4, true) }) (v := .slice (some ⟨B, po, none⟩) p.items.length cp) rfl (by kernel_rfl) (by kernel_rfl) (by kernel_rfl) (fun _ _ _ h => h) (yieldsIf_load_cell (by rfl) 22 _ rfl _ rfl (fun W hW => HP5.out W hW) (fun W hc => ld_strings hc)) (by assumption) ?_
                simp only [Act.put, List.setIfInBounds_toArray, List.set_cons_zero, List.set_cons_succ]
                refine wpAnyH_take (i := 11) (oi := { dst := some 194, op := Op.load 22 (Operand.tmp 193), type := 22, pos := "law.go:109", after := #[{ on := 10, ground := Ground.data }, { on := 4, ground := Ground.guard }], guard := some (4, true) }) (v := .slice (some ⟨B7, o7, none⟩) X.length cp7) rfl (by kernel_rfl) (by kernel_rfl) (by kernel_rfl) (fun _ _ _ h => h) (yieldsIf_load_cell (by rfl) 22 _ rfl _ rfl (fun W hW => HT5.out W hW) (fun W hc => ld_strings hc)) (by assumption) ?_
                simp only [Act.put, List.setIfInBounds_toArray, List.set_cons_zero, List.set_cons_succ]
                refine wpAnyH_take (i := 8) (oi := { dst := some 191, op := Op.indexAddr 22 (Operand.tmp 189) (Operand.tmp 190), type := 0, pos := "law.go:109", after := #[{ on := 6, ground := Ground.data }, { on := 7, ground := Ground.data }, { on := 4, ground := Ground.guard }], guard := some (4, true) }) (v := .pointer (some ⟨B, po + j, none⟩)) rfl (by kernel_rfl) (by kernel_rfl) (by kernel_rfl) (fun _ _ _ h => h) (Or.inl ⟨by rfl, fun w' hSw => by clear hSw; go_simp⟩) (by assumption) ?_
                simp only [Act.put, List.setIfInBounds_toArray, List.set_cons_zero, List.set_cons_succ]
                refine wpAnyH_take (i := 13) (oi := { dst := some 196, op := Op.indexAddr 22 (Operand.tmp 194) (Operand.tmp 195), type := 0, pos := "law.go:109", after := #[{ on := 11, ground := Ground.data }, { on := 12, ground := Ground.data }, { on := 4, ground := Ground.guard }], guard := some (4, true) }) (v := .pointer (some ⟨B7, o7 + j, none⟩)) rfl (by kernel_rfl) (by kernel_rfl) (by kernel_rfl) (fun _ _ _ h => h) (Or.inl ⟨by rfl, fun w' hSw => by clear hSw; go_simp⟩) (by assumption) ?_
                simp only [Act.put, List.setIfInBounds_toArray, List.set_cons_zero, List.set_cons_succ]
                refine wpAnyH_take (i := 9) (oi := { dst := some 192, op := Op.load 9 (Operand.tmp 191), type := 9, pos := "law.go:109", after := #[{ on := 8, ground := Ground.data }, { on := 4, ground := Ground.guard }], guard := some (4, true) }) (v := .string it) rfl (by kernel_rfl) (by kernel_rfl) (by kernel_rfl) (fun _ _ _ h => h) (yieldsIf_load_cell (by rfl) 9 _ rfl _ rfl (fun W hW => HI5.out W hW) (fun W hc => ld_string hc)) (by assumption) ?_
                simp only [Act.put, List.setIfInBounds_toArray, List.set_cons_zero, List.set_cons_succ]
                refine wpAnyH_take (i := 14) (oi := { dst := some 197, op := Op.load 9 (Operand.tmp 196), type := 9, pos := "law.go:109", after := #[{ on := 13, ground := Ground.data }, { on := 4, ground := Ground.guard }], guard := some (4, true) }) (v := .string it) rfl (by kernel_rfl) (by kernel_rfl) (by kernel_rfl) (fun _ _ _ h => h) (yieldsIf_load_cell (by rfl) 9 _ rfl _ rfl (fun W hW => HX5.out W hW) (fun W hc => ld_string hc)) (by assumption) ?_
                simp only [Act.put, List.setIfInBounds_toArray, List.set_cons_zero, List.set_cons_succ]
                refine wpAnyH_take (i := 15) (oi := { dst := some 198, op := Op.binOp BinOp.neq 9 (Operand.tmp 192) (Operand.tmp 197) 9, type := 4, pos := "law.go:109", after := #[{ on := 9, ground := Ground.data }, { on := 14, ground := Ground.data }, { on := 4, ground := Ground.guard }], guard := some (4, true) }) (v := .bool false) rfl (by kernel_rfl) (by kernel_rfl) (by kernel_rfl) (fun _ _ _ h => h) (Or.inl ⟨by rfl, fun w' hSw => by clear hSw; go_simp⟩) (by assumption) ?_
                simp only [Act.put, List.setIfInBounds_toArray, List.set_cons_zero, List.set_cons_succ]
                refine wpAnyH_take (i := 16) (oi := { dst := some 199, op := Op.pick (Operand.tmp 187) (Operand.tmp 198) (Operand.const (Value.bool false)), type := 4, pos := "law.go:109", after := #[{ on := 4, ground := Ground.data }, { on := 15, ground := Ground.data }], guard := none }) (v := .bool false) rfl (by kernel_rfl) (by kernel_rfl) (by kernel_rfl) (fun _ _ _ h => h) (Or.inl ⟨by rfl, fun w' hSw => by clear hSw; go_simp⟩) (by assumption) ?_
                simp only [Act.put, List.setIfInBounds_toArray, List.set_cons_zero, List.set_cons_succ]
                refine wpAnyH_done (by kernel_rfl) ?_ _
                refine NoPanic.normal ?_
                go_wp2_with fail
                go_roundw
                case rel => exact ⟨j + 1, by omega, by go_num, hide (o2 HOj.out hHeld)⟩
                case measure => simp [intOf]; omega
            · have hjk : ¬ (j : Int) < (p.items.length : Int) := by omega
              go_wp2_with fail
              refine (HEND.out _ HBj.out.only).mono ?_
              rintro e wz ⟨rfl, hoz⟩
              go_wp2_with fail
              go_ret
              exact ⟨rfl, hoz⟩
        · rw [hk2] at r3
          by_cases hz : R.old = 0 ∧ R.new = 0
          · obtain ⟨z1, z2⟩ := hz
            rw [z1] at r7
            rw [z2] at r8
            clear HI HM HKK
            go_wp2_with fail
            refine (HEND.out _ HB7.out.only).mono ?_
            rintro e w9 ⟨rfl, ho9⟩
            go_wp2_with fail
            go_ret
            exact ⟨rfl, ho9⟩
          · have HY := hide (HM.out hk2 hlt hla (by first | trivial | rfl) hz)
            clear HI HM HKK hk2
            have hzc : R.old = 0 → (R.new == 0) = false := fun q => by simpa using fun e => hz ⟨q, e⟩
            have eY := HY.out
            subst eY
            have t0 : w8.cell? ⟨b11, 0, none⟩ = some (.int .i64 later) := HT7.out.c0
            have HT8 : Hid (Pag w8 b11 (.int .i64 later) (.int .i64 p.kind) (.int .i64 p.level) (.int .i64 p.right) (.string p.high) (.slice ao7 p.items.length cp7)) := HT7.out
            have HS8 : Hid (Strs w8 B7 ao7 p.items) := HS7.out
            have HN8 : Hid (0 < p.items.length → B7 < b11) := HN7.out
            clear HT7 HS7 HN7 HY
            have HTAIL : Hid (Only (fun j => j = b11) w8 (w8.setCell ⟨b11, 0, none⟩ (.int .i64 p.lsn))) := Only.setCell w8 ⟨b11, 0, none⟩ _ rfl
            have HT9 := hide (HT8.out.set0 (.int .i64 p.lsn))
            have HS9 := hide (HS8.out.kept HTAIL.out (fun h0 e => by have := HN8.out h0; omega))
            have HP9 := hide (HB7.out.pag.kept HTAIL.out (by have := HB7.out.lt; have := HL7.out; omega))
            have HO9 := hide (HB7.out.only.trans HTAIL.out (fun i hi e => by have := HB7.out.lt; have := HL7.out; omega))
            have tf := HT8.out.f0
            have p0 := HB7.out.pag.c0
            by_cases hzo : R.old = 0
            · have hzn := hzc hzo
              rw [hzo] at r7
              go_upto_region 16 with fail
              obtain ⟨w9, hw9⟩ : ∃ x, w8.setCell ⟨b11, 0, none⟩ (.int .i64 p.lsn) = x := ⟨_, rfl⟩
              rw [hw9] at HT9 HS9 HP9 HO9 ⊢
              clear hw9 t0 tf p0 r1 r3 r4 r7 r8 u2 u4 HT8 HS8 HTAIL
              obtain ⟨t0, t1, t2, t3, t4, t5, _⟩ := HT9.out
              obtain ⟨p0, p1, p2, p3, p4, p5, _⟩ := HP9.out
              go_wp2_with fail
              refine (ysame_any w9 p.lsn p.kind p.level p.right p.lsn p.kind p.level p.right p.high p.high _ _ cp7 cp ao7 ao p.items p.items HS9.out (HSP.out _ HO9.out)).mono ?_
              rintro e wa ⟨rfl, hoa⟩
              rw [decide_eq_true (show p.lsn = p.lsn ∧ p.kind = p.kind ∧ p.level = p.level ∧ p.right = p.right ∧ p.high = p.high ∧ p.items = p.items from ⟨rfl, rfl, rfl, rfl, rfl, rfl⟩)]
              have HOa := hide (o2 HO9.out hoa)
              clear t0 t1 t2 t3 t4 t5 p0 p1 p2 p3 p4 p5 hoa
              go_wp2_with fail
              refine (HEND.out _ HOa.out).mono ?_
              rintro e wb ⟨rfl, hob⟩
              go_wp2_with fail
              go_ret
              exact ⟨rfl, hob⟩
            · have hzb : (R.old == 0) = false := by simpa using hzo
              go_upto_region 16 with fail
              obtain ⟨w9, hw9⟩ : ∃ x, w8.setCell ⟨b11, 0, none⟩ (.int .i64 p.lsn) = x := ⟨_, rfl⟩
              rw [hw9] at HT9 HS9 HP9 HO9 ⊢
              clear hw9 t0 tf p0 r1 r3 r4 r7 r8 u2 u4 HT8 HS8 HTAIL
              obtain ⟨t0, t1, t2, t3, t4, t5, _⟩ := HT9.out
              obtain ⟨p0, p1, p2, p3, p4, p5, _⟩ := HP9.out
              go_wp2_with fail
              refine (ysame_any w9 p.lsn p.kind p.level p.right p.lsn p.kind p.level p.right p.high p.high _ _ cp7 cp ao7 ao p.items p.items HS9.out (HSP.out _ HO9.out)).mono ?_
              rintro e wa ⟨rfl, hoa⟩
              rw [decide_eq_true (show p.lsn = p.lsn ∧ p.kind = p.kind ∧ p.level = p.level ∧ p.right = p.right ∧ p.high = p.high ∧ p.items = p.items from ⟨rfl, rfl, rfl, rfl, rfl, rfl⟩)]
              have HOa := hide (o2 HO9.out hoa)
              clear t0 t1 t2 t3 t4 t5 p0 p1 p2 p3 p4 p5 hoa
              go_wp2_with fail
              refine (HEND.out _ HOa.out).mono ?_
              rintro e wb ⟨rfl, hob⟩
              go_wp2_with fail
              go_ret
              exact ⟨rfl, hob⟩
      · have hn2 : later ≤ R.lsn := by omega
        have hn1 : ¬ R.lsn ≤ p.lsn := by omega
        subst hC
        go_wp2_with fail
        refine (HEND.out _ HB4.out.only).mono ?_
        rintro e w6 ⟨rfl, ho6⟩
        go_wp2_with fail
        go_ret
        exact ⟨rfl, ho6⟩
    · have hn1 : R.lsn ≤ p.lsn := by omega
      subst hC
      go_wp2_with fail
      refine (HEND.out _ HB4.out.only).mono ?_
      rintro e w6 ⟨rfl, ho6⟩
      go_wp2_with fail
      go_ret
      exact ⟨rfl, ho6⟩
  · have hCb : (C == 0) = false := by simpa using hC
    go_wp2_with fail
    refine (HEND.out _ HB4.out.only).mono ?_
    rintro e w6 ⟨rfl, ho6⟩
    go_wp2_with fail
    go_ret
    exact ⟨rfl, ho6⟩
theorem back_law (w : World) (a k v r : Int) (h : ByteArray) (B cp : Nat) (ao : Option Addr) (l : List ByteArray) (R : Rc) (L : Loc) (later : Int) (hp : PgIn w (.agg #[.int .i64 a, .int .i64 k, .int .i64 v, .int .i64 r, .string h, .slice ao l.length cp]) a k v r h B ao cp l) (hr : RcAt w R L) (hn : RkN R) (_hl : I64 later) :
    Calls Tryz.prog 4 #[.agg #[.int .i64 a, .int .i64 k, .int .i64 v, .int .i64 r, .string h, .slice ao l.length cp], .agg (R.cells L), .int .i64 later] w fun e w' => e = .returned (.bool true) ∧ Only (fun _ => False) w w' := by
  cases hk : undK R.kind with
  | false => exact back_law_no w ⟨a, k, v, r, h, l⟩ ao cp R L later hk
  | true => exact back_law_yes w ⟨a, k, v, r, h, l⟩ B ao cp R L later ⟨⟨hp.strs, hp.fit, hp.high, hp.len⟩, hr, hn, by unfold I64; decide⟩ hk
end Go.Proofs.YtnpdmlkgcjggoaaGreat
