/- Parts. -/
import Derived.Test.YtpnbhddmdfcjdaaGreatK48
import Derived.Test.YtpnbhddmdfcjdaaGreatK49
import Derived.Test.YtpnbhddmdfcjdaaGreatK51
set_option maxRecDepth 100000
namespace Go.Proofs.YtpnbhddmdfcjdaaGreat
open Go.RowKit
/-- A record with its LSN. -/
def Rc.wl5 (R : Rc) (x : Int) : Rc := ⟨x, R.prev, R.next, R.kind, R.xid, R.page, R.slot, R.old, R.new, R.redo, R.data, R.slots, R.more, R.images, R.pages, R.txns⟩
theorem RcAt.wl {w : World} {R : Rc} {L : Loc} (h : RcAt w R L) (x : Int) : RcAt w (R.wl5 x) L := ⟨h.slots, h.more, h.images, h.pages, h.txns, h.f1, h.f2, h.data, h.kind⟩
theorem Rb.wl {w : World} {b : Nat} {R : Rc} {L : Loc} (h : Rb w b R L) (x : Int) : Rb (w.setCell ⟨b, 0, none⟩ (.int .i64 x)) b (R.wl5 x) L := h.one 0 _ (by omega) rfl
theorem RcAt.cln {S : Nat → Prop} {w w' : World} {pg : Int} {G : List Int} {L : Loc} (h : RcAt w (clR pg G) L) (ho : Only S w w') (hS : 0 < G.length → ¬ S L.b1) : RcAt w' (clR pg G) L :=
  ⟨h.slots.kept ho hS, h.more.kept ho (fun q => absurd q (Nat.lt_irrefl 0)), ⟨fun _ => False, Ims.nil _ _ _ _⟩, Prs.nil _ _ _, Prs.nil _ _ _, h.f1, h.f2, h.data, h.kind⟩
/-- What Do leaves: the page's list anew, its LSN the record's. -/
def DoX (W w' : World) (e : Ending) (x : Int) (n : Nat) (M : List ByteArray) : Prop := ∃ B ao cp, e = .returned (.tuple #[.agg #[.int .i64 x, .int .i64 2, .int .i64 0, .int .i64 0, .string ⟨#[]⟩, .slice ao n cp], .int .i64 0]) ∧ Strs w' B ao M ∧ Fit ao n cp ∧ Only (fun _ => False) W w' ∧ (0 < n → W.heap.size ≤ B)
theorem doX_of {W w' : World} {e : Ending} {x : Int} {n : Nat} {M : List ByteArray} {p : Pg} {k : Int} (h : Res W w' e p k) (hp : p = ⟨x, 2, 0, 0, ⟨#[]⟩, M⟩) (hk : k = 0) (hn : M.length = n) : DoX W w' e x n M := by
  subst hp hk hn
  exact h
theorem do_frz (W : World) (V : Vw) (h m ls : Int) (B cp n : Nat) (ao : Option Addr) (l : List ByteArray) (K : Wk) (L : Loc) (hK : wkN V h 7 l l.length = K) (hn : l.length = n) (hS : Strs W B ao l) (hF : Fit ao n cp) (hl : n ≤ 1759218604441) (hm : I64 m) (hls : ls < 5) (hR : RcAt W ((frR 7 K).wl5 5) L) :
    ∃ M : List ByteArray, M.length = n ∧ wkN V h 7 M M.length = ⟨[], [], K.gn⟩ ∧ Calls Tryz.prog 16 #[.int .i64 m, .agg #[.int .i64 ls, .int .i64 2, .int .i64 0, .int .i64 0, .string ⟨#[]⟩, .slice ao n cp], .int .i64 7, .agg (((frR 7 K).wl5 5).cells L)] W fun e w' => DoX W w' e 5 n M := by
  subst hn
  obtain ⟨M, h1, h2, h3, h4⟩ := frz_done hK
  refine ⟨M, h3, h4, ?_⟩
  refine (do_any W m ls 2 0 0 7 ⟨#[]⟩ B cp ao l ((frR 7 K).wl5 5) L ⟨hS, hF, by show l.length ≤ _; omega, Nat.zero_le _, ⟨hR, hm, ⟨by show (-9223372036854775808 : Int) ≤ 0; decide, by show (0 : Int) < 9223372036854775808; decide⟩, ⟨by show (-9223372036854775808 : Int) ≤ 0; decide, by show (0 : Int) < 9223372036854775808; decide⟩⟩⟩).mono (fun e w' hr => ?_)
  have e1 : doP m ⟨ls, 2, 0, 0, ⟨#[]⟩, l⟩ 7 ((frR 7 K).wl5 5) = (⟨5, 2, 0, 0, ⟨#[]⟩, M⟩, 0) := by
    have ei : imP 7 ((frR 7 K).wl5 5).images = none := rfl
    unfold doP
    rw [ei]
    show (if ownK 10 = true ∧ (7 : Int) = 7 ∧ ls < 5 then doneP ((frR 7 K).wl5 5) (doesP m ⟨ls, 2, 0, 0, ⟨#[]⟩, l⟩ ((frR 7 K).wl5 5)) else _) = _
    rw [if_pos ⟨by decide, rfl, hls⟩]
    have ef : frzL ((frR 7 K).wl5 5) l = (M, 0) := by
      unfold frzL
      show (if (chgL cgF K.fr l).2 = 0 then chgL cgX K.of (chgL cgF K.fr l).1 else chgL cgF K.fr l) = _
      rw [h1]
      simp only [if_true]
      exact h2
    have ed : doesP m ⟨ls, 2, 0, 0, ⟨#[]⟩, l⟩ ((frR 7 K).wl5 5) = (⟨ls, 2, 0, 0, ⟨#[]⟩, M⟩, 0) := by
      unfold doesP
      rw [if_neg (show ¬ ((frR 7 K).wl5 5).kind = 11 by show ¬ (10 : Int) = 11; decide), if_pos (show ((frR 7 K).wl5 5).kind = 10 from rfl)]
      rw [ef]
      rfl
    rw [ed]
    rfl
  rw [e1] at hr
  exact doX_of hr rfl rfl h3
theorem do_cln (W : World) (V : Vw) (h m ls : Int) (B cp n : Nat) (ao : Option Addr) (l : List ByteArray) (G : List En) (L : Loc) (hK : wkN V h 7 l l.length = ⟨[], [], G⟩) (hn : l.length = n) (hS : Strs W B ao l) (hF : Fit ao n cp) (hl : n ≤ 1759218604441) (hm : I64 m) (hls : ls < 6) (hR : RcAt W ((clR 7 (slG G)).wl5 6) L) :
    ∃ M : List ByteArray, M.length = n ∧ wkN V h 7 M M.length = ⟨[], [], []⟩ ∧ Calls Tryz.prog 16 #[.int .i64 m, .agg #[.int .i64 ls, .int .i64 2, .int .i64 0, .int .i64 0, .string ⟨#[]⟩, .slice ao n cp], .int .i64 7, .agg (((clR 7 (slG G)).wl5 6).cells L)] W fun e w' => DoX W w' e 6 n M := by
  subst hn
  obtain ⟨M, h1, h3, h4⟩ := cln_done hK
  refine ⟨M, h3, h4, ?_⟩
  refine (do_any W m ls 2 0 0 7 ⟨#[]⟩ B cp ao l ((clR 7 (slG G)).wl5 6) L ⟨hS, hF, by show l.length ≤ _; omega, Nat.zero_le _, ⟨hR, hm, ⟨by show (-9223372036854775808 : Int) ≤ 0; decide, by show (0 : Int) < 9223372036854775808; decide⟩, ⟨by show (-9223372036854775808 : Int) ≤ 0; decide, by show (0 : Int) < 9223372036854775808; decide⟩⟩⟩).mono (fun e w' hr => ?_)
  have e1 : doP m ⟨ls, 2, 0, 0, ⟨#[]⟩, l⟩ 7 ((clR 7 (slG G)).wl5 6) = (⟨6, 2, 0, 0, ⟨#[]⟩, M⟩, 0) := by
    have ei : imP 7 ((clR 7 (slG G)).wl5 6).images = none := rfl
    unfold doP
    rw [ei]
    show (if ownK 9 = true ∧ (7 : Int) = 7 ∧ ls < 6 then doneP ((clR 7 (slG G)).wl5 6) (doesP m ⟨ls, 2, 0, 0, ⟨#[]⟩, l⟩ ((clR 7 (slG G)).wl5 6)) else _) = _
    rw [if_pos ⟨by decide, rfl, hls⟩]
    have ed : doesP m ⟨ls, 2, 0, 0, ⟨#[]⟩, l⟩ ((clR 7 (slG G)).wl5 6) = (⟨ls, 2, 0, 0, ⟨#[]⟩, M⟩, 0) := by
      unfold doesP
      rw [if_neg (show ¬ ((clR 7 (slG G)).wl5 6).kind = 11 by show ¬ (9 : Int) = 11; decide), if_neg (show ¬ ((clR 7 (slG G)).wl5 6).kind = 10 by show ¬ (9 : Int) = 10; decide), if_pos (show ((clR 7 (slG G)).wl5 6).kind = 9 from rfl)]
      show (Pg.chg ⟨ls, 2, 0, 0, ⟨#[]⟩, l⟩ (clnL (slG G) l), (clnL (slG G) l).2) = _
      unfold slG
      rw [h1]
      rfl
    rw [ed]
    rfl
  rw [e1] at hr
  exact doX_of hr rfl rfl h3
theorem slG_rise {V : Vw} {h pg : Int} {l : List ByteArray} {k : Nat} {K : Wk} (ok : WkOk V h pg l k K) : (slG K.gn).Pairwise (· < ·) := by
  unfold slG
  rw [List.pairwise_iff_getElem]
  intro i j hi hj hij
  rw [List.getElem_map, List.getElem_map]
  exact ok.rise i j (by rw [List.length_map] at hj; exact hj) hij
set_option maxRecDepth 100000 in
set_option maxHeartbeats 3200000 in
theorem ends_law (w : World) (m fr : Int) (BO : Nat) (aO : Option Addr) (n cap : Nat) (X : Nat → Int) (S : Nat → Nat) (V : Vw) (q : Lo) (B cp : Nat) (ao : Option Addr) (l : List Sv) (hm : I64 m) (hfr : I64 fr) (hS : Sds w BO aO n X S) (hV : Sn w V q) (hl : Svs w B ao l) :
    Calls Tryz.prog 4 #[.agg #[.int .i64 m, .int .i64 fr, .slice aO n cap], .agg #[.int .i64 V.m, .int .i64 V.next, .slice q.aA V.act.length q.cA, .int .i64 V.own, .slice q.aR V.run.length q.cR, .int .i64 V.pg.lsn, .int .i64 V.pg.kind, .int .i64 V.pg.level, .int .i64 V.pg.right, .string V.pg.high, .slice q.aP V.pg.items.length q.cP], .slice ao l.length cp] w fun e w' => e = .returned (.bool true) ∧ Only (fun _ => False) w w' := by
  have HN0 := hide (xv_new w m fr (.slice aO n cap) V q)
  have HM := hide (fun W hs hn => view_any W m fr BO aO n cap X S V q hm hfr hs hn)
  have HSD := hide hS
  have HSV := hide hV
  have HSL := hide hl
  have HNX := hide hV.next
  have HAW := hide (fun W => vawake_any W)
  clear hm hfr hS hV hl
  go_enter Tryz.func4, Tryz.ntmps4
  go_upto_region 1 with fail
  obtain ⟨W0, hW0⟩ : ∃ x, (w.alloc (.cells #[.int .i64 m, .int .i64 fr, .slice aO n cap] 24)).alloc (.cells #[.int .i64 V.m, .int .i64 V.next, .slice q.aA V.act.length q.cA, .int .i64 V.own, .slice q.aR V.run.length q.cR, .int .i64 V.pg.lsn, .int .i64 V.pg.kind, .int .i64 V.pg.level, .int .i64 V.pg.right, .string V.pg.high, .slice q.aP V.pg.items.length q.cP] 32) = x := ⟨_, rfl⟩
  rw [hW0] at HN0 ⊢
  clear hW0
  obtain ⟨b4, hb4⟩ : ∃ b, w.heap.size + 1 = b := ⟨_, rfl⟩
  rw [hb4] at HN0 ⊢
  obtain ⟨b3, hb3⟩ : ∃ b, w.heap.size = b := ⟨_, rfl⟩
  rw [hb3] at HN0 ⊢
  clear hb3 hb4
  have HVB := hide HN0.out.2.1
  have HO0 := hide HN0.out.2.2
  obtain ⟨x0, x1, x2, _⟩ := HN0.out.1
  obtain ⟨vc0, vc1, vc2, vc3, vc4, vc5, vc6, vc7, vc8, vc9, vc10, _, _, _, _, _, _, _, _, _, _, _, _⟩ := HVB.out
  go_wp2_with fail
  refine (HM.out _ (HSD.out.more HO0.out) (HSV.out.more HO0.out)).mono ?_
  rintro e w1 ⟨V1, q1, ok, hq⟩
  obtain ⟨rfl, hsn1, ho1⟩ := hq
  clear x0 x1 x2 vc0 vc1 vc2 vc3 vc4 vc5 vc6 vc7 vc8 vc9 vc10 HM
  have HSN1 := hide hsn1
  have HOA1 := hide (onlyA w1 (.cells #[.int .i64 V1.m, .int .i64 V1.next, .slice q1.aA V1.act.length q1.cA, .int .i64 V1.own, .slice q1.aR V1.run.length q1.cR, .int .i64 V1.pg.lsn, .int .i64 V1.pg.kind, .int .i64 V1.pg.level, .int .i64 V1.pg.right, .string V1.pg.high, .slice q1.aP V1.pg.items.length q1.cP] 32))
  have HO1 := hide (o2 ho1 HOA1.out)
  have HV1 := hide (VB.new w1 (.int .i64 V1.m) (.int .i64 V1.next) (.slice q1.aA V1.act.length q1.cA) (.int .i64 V1.own) (.slice q1.aR V1.run.length q1.cR) (.int .i64 V1.pg.lsn) (.int .i64 V1.pg.kind) (.int .i64 V1.pg.level) (.int .i64 V1.pg.right) (.string V1.pg.high) (.slice q1.aP V1.pg.items.length q1.cP))
  have HB7 : Hid (w.heap.size ≤ w1.heap.size) := Nat.le_trans HO0.out.size ho1.size
  clear hsn1 ho1
  go_upto_region 2 with fail
  obtain ⟨W1, hW1⟩ : ∃ x, w1.alloc (.cells #[.int .i64 V1.m, .int .i64 V1.next, .slice q1.aA V1.act.length q1.cA, .int .i64 V1.own, .slice q1.aR V1.run.length q1.cR, .int .i64 V1.pg.lsn, .int .i64 V1.pg.kind, .int .i64 V1.pg.level, .int .i64 V1.pg.right, .string V1.pg.high, .slice q1.aP V1.pg.items.length q1.cP] 32) = x := ⟨_, rfl⟩
  rw [hW1] at HOA1 HO1 HV1 ⊢
  clear hW1
  obtain ⟨b7, hb7⟩ : ∃ b, w1.heap.size = b := ⟨_, rfl⟩
  have HB7E := hide hb7
  rw [hb7] at HV1 HB7 ⊢
  clear hb7
  have HO1w := hide (o2 HO0.out HO1.out)
  cases ok with
  | false =>
    go_wp2_with fail
    refine (HAW.out _).mono ?_
    rintro e w8 ⟨rfl, ho8⟩
    have HO8 := hide (o2 HO1w.out ho8)
    clear ho8
    go_wp2_with fail
    go_ret
    exact ⟨rfl, HO8.out⟩
  | true =>
    have HPG := hide (vlpage_any W1 B cp ao l (HSL.out.more HO1w.out))
    go_wp2_with fail
    refine HPG.out.mono ?_
    rintro e w2 ⟨vi, rfl, hr2, ho2⟩
    obtain ⟨ai, ci, rfl⟩ := hr2.form
    have HIL0 : Hid ((l.map Sv.item).length ≤ 1759218604441) := by unfold Hid; rw [List.length_map]; exact HSL.out.len
    have HISZ : Hid (∀ s ∈ l.map Sv.item, s.size ≤ 140737488355328) := fun s hs => by
      obtain ⟨z, hz, rfl⟩ := List.mem_map.1 hs
      exact item_size (HSL.out.each z hz).2.2.2
    obtain ⟨Bi, hst2, hfi2, _⟩ := hr2.strs (by have := HIL0.out; omega) HISZ.out
    obtain ⟨L, hL⟩ : ∃ L, l.map Sv.item = L := ⟨_, rfl⟩
    rw [hL] at hst2 hfi2 HIL0 ⊢
    obtain ⟨ni, hni⟩ : ∃ k, L.length = k := ⟨_, rfl⟩
    have HNI := hide hni
    rw [hni] at HIL0 hfi2 ⊢
    have HBI : Hid (0 < ni → Bi < w2.heap.size) := fun q => hst2.lt (by rw [hni]; exact q)
    have HFI := hide hfi2
    have HO2 := hide (o2 ho2 (onlyA w2 (.cells #[.int .i64 1, .int .i64 2, .int .i64 0, .int .i64 0, .string ⟨#[]⟩, .slice ai ni ci] 30)))
    have HP2 := hide (Pag.new w2 (.int .i64 1) (.int .i64 2) (.int .i64 0) (.int .i64 0) (.string ⟨#[]⟩) (.slice ai ni ci))
    have HST2 := hide (hst2.more (onlyA w2 (.cells #[.int .i64 1, .int .i64 2, .int .i64 0, .int .i64 0, .string ⟨#[]⟩, .slice ai ni ci] 30)))
    have HB9 : Hid (b7 < w2.heap.size) := Nat.lt_of_lt_of_le HV1.out.lt ho2.size
    clear hst2 hfi2 hr2 ho2 hL hni HPG HSL HISZ
    go_upto_region 5 with fail
    obtain ⟨W2, hW2⟩ : ∃ x, w2.alloc (.cells #[.int .i64 1, .int .i64 2, .int .i64 0, .int .i64 0, .string ⟨#[]⟩, .slice ai ni ci] 30) = x := ⟨_, rfl⟩
    rw [hW2] at HO2 HP2 HST2 ⊢
    clear hW2
    obtain ⟨b9, hb9⟩ : ∃ b, w2.heap.size = b := ⟨_, rfl⟩
    rw [hb9] at HP2 HB9 HBI ⊢
    clear hb9
    have HV2 := hide (HV1.out.more HO2.out)
    have HVB2 := hide (HVB.out.more (o2 HO1.out HO2.out))
    have HSO : Hid (Calls Tryz.prog 7 #[.agg #[.int .i64 V1.m, .int .i64 V1.next, .slice q1.aA V1.act.length q1.cA, .int .i64 V1.own, .slice q1.aR V1.run.length q1.cR, .int .i64 V1.pg.lsn, .int .i64 V1.pg.kind, .int .i64 V1.pg.level, .int .i64 V1.pg.right, .string V1.pg.high, .slice q1.aP V1.pg.items.length q1.cP], .int .i64 V.next, .int .i64 7, .agg #[.int .i64 1, .int .i64 2, .int .i64 0, .int .i64 0, .string ⟨#[]⟩, .slice ai ni ci]] W2 fun e w' => ∃ v0 v1 v2, e = .returned (.agg #[v0, v1, v2]) ∧ WkAt w' W2.heap.size v0 v1 v2 (wkN V1 V.next 7 L L.length) ∧ Only (fun _ => False) W2 w') := by
      have h := vsort_heap W2 V1 q1 V.next 7 1 0 0 ⟨#[]⟩ Bi ci ai L (HSN1.out.more (o2 HOA1.out HO2.out)) HST2.out HNX.out (by rw [HNI.out]; have := HIL0.out; omega)
      rw [HNI.out] at h
      rw [HNI.out]
      exact h
    obtain ⟨vc0, vc1, vc2, vc3, vc4, vc5, vc6, vc7, vc8, vc9, vc10, _, _, _, _, _, _, _, _, _, _, _, _⟩ := HV2.out
    obtain ⟨r0, r1, r2, r3, r4, r5, r6, r7, r8, r9, r10, _, _, _, _, _, _, _, _, _, _, _, _⟩ := HVB2.out
    obtain ⟨p0, p1, p2, p3, p4, p5, _⟩ := HP2.out
    go_wp2_with fail
    refine HSO.out.mono ?_
    rintro e w3 ⟨v0, v1, v2, rfl, hk3, ho3⟩
    have HOK := hide (wkN_ok V1 V.next 7 L L.length (Nat.le_refl _))
    have HLE := hide (wkN_len V1 V.next 7 L L.length)
    rw [HNI.out] at HLE hk3
    obtain ⟨K, hK⟩ : ∃ K, wkN V1 V.next 7 L ni = K := ⟨_, rfl⟩
    have hK2 : wkN V1 V.next 7 L L.length = K := by rw [HNI.out]; exact hK
    rw [hK] at HLE hk3
    rw [hK2] at HOK
    have HWKQ : Hid (wkN V1 V.next 7 L L.length = K) := hK2
    clear hK hK2 HSO vc0 vc1 vc2 vc3 vc4 vc5 vc6 vc7 vc8 vc9 vc10 r0 r1 r2 r3 r4 r5 r6 r7 r8 r9 r10 p0 p1 p2 p3 p4 p5
    obtain ⟨a0, c0, rfl⟩ := hk3.fr.form
    obtain ⟨a1, c1, rfl⟩ := hk3.of.form
    obtain ⟨a2, c2, rfl⟩ := hk3.gn.form
    have HF3 := hide hk3.fr
    have HG3' := hide hk3.of
    have HG3 := hide hk3.gn
    clear hk3
    obtain ⟨m0, hm0⟩ : ∃ k, K.fr.length = k := ⟨_, rfl⟩
    obtain ⟨m1, hm1⟩ : ∃ k, K.of.length = k := ⟨_, rfl⟩
    obtain ⟨m2, hm2⟩ : ∃ k, K.gn.length = k := ⟨_, rfl⟩
    have HM0 := hide hm0
    have HM1 := hide hm1
    have HM2 := hide hm2
    rw [hm0, hm1, hm2] at HLE ⊢
    clear hm0 hm1 hm2
    have HA3 := hide (onlyA w3 (.cells #[.slice a0 m0 c0, .slice a1 m1 c1, .slice a2 m2 c2] 39))
    have HO3 := hide (o2 ho3 HA3.out)
    have HW3 := hide (WB.new w3 39 (.slice a0 m0 c0) (.slice a1 m1 c1) (.slice a2 m2 c2))
    have HB11 : Hid (W2.heap.size ≤ w3.heap.size ∧ b9 < W2.heap.size) := ⟨ho3.size, HP2.out.lt⟩
    clear ho3
    go_upto_region 7 with fail
    obtain ⟨W3, hW3⟩ : ∃ x, w3.alloc (.cells #[.slice a0 m0 c0, .slice a1 m1 c1, .slice a2 m2 c2] 39) = x := ⟨_, rfl⟩
    rw [hW3] at HO3 HA3 HW3 ⊢
    clear hW3
    obtain ⟨b11, hb11⟩ : ∃ b, w3.heap.size = b := ⟨_, rfl⟩
    rw [hb11] at HW3 HB11 ⊢
    clear hb11
    have HP3 := hide (HP2.out.more HO3.out)
    have HST3 := hide (HST2.out.more HO3.out)
    have HV3 := hide (HV2.out.more HO3.out)
    have HG3 := hide (HG3.out.more HA3.out)
    have HF3 := hide (HF3.out.more HA3.out)
    have HG3' := hide (HG3'.out.more HA3.out)
    have HX3 := hide (o2 HOA1.out (o2 HO2.out HO3.out))
    have HOW3 := hide (o2 HO1w.out (o2 HO2.out HO3.out))
    have HZN : Hid (∀ W : World, Rb (W.alloc (.cells #[.int .i64 0, .int .i64 0, .int .i64 0, .int .u8 0, .int .i64 0, .int .i64 0, .int .i64 0, .int .i64 0, .int .i64 0, .int .i64 0, .string ⟨#[]⟩, .slice none 0 0, .slice none 0 0, .slice none 0 0, .slice none 0 0, .slice none 0 0] 47)) W.heap.size Rc.none nlL) := fun W => Rb.new W Rc.none nlL
    have HZA : Hid (∀ W : World, Only (fun _ => False) W (W.alloc (.cells #[.int .i64 0, .int .i64 0, .int .i64 0, .int .u8 0, .int .i64 0, .int .i64 0, .int .i64 0, .int .i64 0, .int .i64 0, .int .i64 0, .string ⟨#[]⟩, .slice none 0 0, .slice none 0 0, .slice none 0 0, .slice none 0 0, .slice none 0 0] 47))) := fun W => onlyA W _
    clear HP2 HV2 HVB2 HV1 HVB HN0 HST2 HSV HSD
    obtain ⟨z0, z1, z2, zf0, zf1, zf2, zfl⟩ := HW3.out
    by_cases hfo : K.fr = [] ∧ K.of = []
    · have h0 : m0 = 0 := by rw [← HM0.out, hfo.1]; rfl
      have h1 : m1 = 0 := by rw [← HM1.out, hfo.2]; rfl
      subst h0 h1
      have HWK0 : Hid (wkN V1 V.next 7 L L.length = ⟨[], [], K.gn⟩) := (frz_none HWKQ.out hfo.1 hfo.2)
      have HFZ := hide (fun W => vfreeze_no W 7 a0 a1 a2 c0 c1 m2 c2)
      clear hfo
      go_wp2_with fail
      refine (HFZ.out _).mono ?_
      rintro e w4 ⟨rfl, ho4⟩
      have HA4 := hide ho4
      clear ho4 z0 z1 z2 zf0 zf1 zf2 zfl
      go_upto_region 8 with (refine wpList_put_rc rfl (.tmp 12) (.tmp 40) rfl w4.heap.size rfl Rc.none Rc.none nlL nlL rfl (HZN.out w4) (fun y1 HS => ?_); go_frame)
      have q0 := HS.out.1.cell 0 _ rfl
      have g0 := HS.out.1.frozen 0 (by omega)
      have HOS : Hid (Only (fun _ => False) w4 (y1.setCell ⟨w4.heap.size, 0, none⟩ (.int .i64 5))) := (HZA.out w4).trans (HS.out.2.trans (Only.setCell (S := fun k => k = w4.heap.size) y1 ⟨w4.heap.size, 0, none⟩ (.int .i64 5) rfl) (fun _ _ h => h)) (fun i hi e => by omega)
      have HR5 := hide (HS.out.1.wl 5)
      clear HS
      go_upto_region 9 with fail
      obtain ⟨W5, hW5⟩ : ∃ x, y1.setCell ⟨w4.heap.size, 0, none⟩ (.int .i64 5) = x := ⟨_, rfl⟩
      rw [hW5] at HOS HR5 ⊢
      clear hW5 q0 g0
      have HB12 : Hid (W3.heap.size ≤ w4.heap.size) := HA4.out.size
      obtain ⟨b12, hb12⟩ : ∃ b, w4.heap.size = b := ⟨_, rfl⟩
      rw [hb12] at HR5 HB12 ⊢
      clear hb12
      have HBS : Hid (w1.heap.size = b7 ∧ w.heap.size ≤ b7 ∧ b7 < b9 ∧ b9 < b11 ∧ b11 < b12) := ⟨HB7E.out, HB7.out, HB9.out, by have := HB11.out; omega, by have := HB12.out; have := HW3.out.lt; omega⟩
      have HA5 := hide (o2 HA4.out HOS.out)
      have HRQW5 := hide HR5.out
      have HVW5 := hide (HV3.out.more HA5.out)
      have HPW5 := hide (HP3.out.more HA5.out)
      have HSTW5 := hide (HST3.out.more HA5.out)
      have HGW5 := hide (HG3.out.more HA5.out)
      have HWBW5 := hide (HW3.out.more HA5.out)
      have HXW5 := hide (o2 HX3.out HA5.out)
      have HOW5 := hide (o2 HOW3.out HA5.out)
      have HFW5 := hide HFI.out
      have HNMW5 := hide HNI.out
      have HWKW5 := hide HWK0.out
      have HLSW5 : Hid ((1 : Int) < 6) := by unfold Hid; decide
      have HNE12 : Hid (0 < ni → Bi ≠ b12) := fun q => by have := HBI.out q; have := HBS.out; omega
      obtain ⟨vc0, vc1, vc2, vc3, vc4, vc5, vc6, vc7, vc8, vc9, vc10, _, _, _, _, _, _, _, _, _, _, _, _⟩ := HVW5.out
      obtain ⟨p0, p1, p2, p3, p4, p5, pf0, pf1, pf2, pf3, pf4, pf5, pfl⟩ := HPW5.out
      have HSO2 : Hid (Calls Tryz.prog 7 #[.agg #[.int .i64 V1.m, .int .i64 V1.next, .slice q1.aA V1.act.length q1.cA, .int .i64 V1.own, .slice q1.aR V1.run.length q1.cR, .int .i64 V1.pg.lsn, .int .i64 V1.pg.kind, .int .i64 V1.pg.level, .int .i64 V1.pg.right, .string V1.pg.high, .slice q1.aP V1.pg.items.length q1.cP], .int .i64 V.next, .int .i64 7, .agg #[.int .i64 1, .int .i64 2, .int .i64 0, .int .i64 0, .string ⟨#[]⟩, .slice ai ni ci]] W5 fun e w' => ∃ v0 v1 v2, e = .returned (.agg #[v0, v1, v2]) ∧ WkAt w' W5.heap.size v0 v1 v2 ⟨[], [], K.gn⟩ ∧ Only (fun _ => False) W5 w') := by
        have h := vsort_heap W5 V1 q1 V.next 7 1 0 0 ⟨#[]⟩ Bi ci ai L (HSN1.out.more HXW5.out) HSTW5.out HNX.out (by rw [HNMW5.out]; have := HIL0.out; omega)
        rw [HWKW5.out, HNMW5.out] at h
        exact h
      go_wp2_with fail
      refine HSO2.out.mono ?_
      rintro e w8 ⟨u0, u1, u2, rfl, hk8, ho8⟩
      obtain ⟨d0, f0, rfl⟩ := hk8.fr.form
      obtain ⟨d1, f1, rfl⟩ := hk8.of.form
      obtain ⟨d2, f2, rfl⟩ := hk8.gn.form
      rw [show ([] : List Int).length = 0 from rfl]
      rw [HM2.out]
      clear hk8 HSO2 vc0 vc1 vc2 vc3 vc4 vc5 vc6 vc7 vc8 vc9 vc10 p0 p1 p2 p3 p4 p5 pf0 pf1 pf2 pf3 pf4 pf5 pfl
      have HA8 := hide (o2 ho8 (onlyA w8 (.cells #[.slice d0 0 f0, .slice d1 0 f1, .slice d2 m2 f2] 39)))
      have HU8 := hide (WB.new w8 39 (.slice d0 0 f0) (.slice d1 0 f1) (.slice d2 m2 f2))
      clear ho8
      go_upto_region 15 with fail
      obtain ⟨b16, hb16⟩ : ∃ b, w8.heap.size = b := ⟨_, rfl⟩
      rw [hb16] at HU8 ⊢
      clear hb16
      obtain ⟨W8, hW8⟩ : ∃ x, w8.alloc (.cells #[.slice d0 0 f0, .slice d1 0 f1, .slice d2 m2 f2] 39) = x := ⟨_, rfl⟩
      rw [hW8] at HA8 HU8 ⊢
      clear hW8
      obtain ⟨t0, t1, t2, _, _, _, _⟩ := HU8.out
      have HWB8 := hide (HWBW5.out.more HA8.out)
      obtain ⟨z0, z1, z2, zf0, zf1, zf2, zfl⟩ := HWB8.out
      have HV8 := hide (HVW5.out.more HA8.out)
      have HP8 := hide (HPW5.out.more HA8.out)
      have HST8 := hide (HSTW5.out.more HA8.out)
      have HRQ8 := hide (HRQW5.out.more HA8.out)
      have HG8 := hide (HGW5.out.more HA8.out)
      have HF8 := hide HFW5.out
      have HNM8 := hide HNMW5.out
      have HWK8 := hide HWKW5.out
      have HLS8 := hide HLSW5.out
      have HX8 := hide (o2 HXW5.out HA8.out)
      have HO8 := hide (o2 HOW5.out HA8.out)
      by_cases hg : K.gn = []
      · have hg0 : m2 = 0 := by rw [← HM2.out, hg]; rfl
        subst hg0
        have HCN := hide (fun W => vclean_no W 7 a0 a1 a2 0 c0 0 c1 c2)
        have HWKE : Hid (wkN V1 V.next 7 L L.length = ⟨[], [], []⟩) := by unfold Hid; rw [HWK8.out, hg]
        clear hg
        go_wp2_with fail
        refine (HCN.out _).mono ?_
        rintro e w9 ⟨rfl, ho9⟩
        have HRQ9 := hide (HRQ8.out.more ho9)
        have HA9 := hide ho9
        clear ho9 t0 t1 t2 z0 z1 z2 zf0 zf1 zf2 zfl
        go_upto_region 18 with (refine wpList_put_rc rfl (.tmp 12) (.tmp 82) rfl b12 rfl (Rc.none.wl5 5) Rc.none nlL nlL rfl HRQ9.out (fun y1 HS => ?_); go_frame)
        have q0 := HS.out.1.cell 0 _ rfl
        have g0 := HS.out.1.frozen 0 (by omega)
        have HOS := hide (HS.out.2.trans (Only.setCell (S := fun k => k = b12) y1 ⟨b12, 0, none⟩ (.int .i64 6) rfl) (fun _ _ h => h))
        clear HS
        go_upto_region 19 with fail
        obtain ⟨WA, hWA⟩ : ∃ x, y1.setCell ⟨b12, 0, none⟩ (.int .i64 6) = x := ⟨_, rfl⟩
        rw [hWA] at HOS ⊢
        clear hWA q0 g0
        have HVWA := hide ((HV8.out.more HA9.out).kept HOS.out (fun e => by have e2 : b7 = b12 := e; have := HBS.out; omega))
        have HPWA := hide ((HP8.out.more HA9.out).kept HOS.out (fun e => by have e2 : b9 = b12 := e; have := HBS.out; omega))
        have HXWA : Hid (Only (fun _ => False) w1 WA) := (o2 HX8.out HA9.out).trans HOS.out (fun i hi e => by have := HBS.out; omega)
        have HOWA : Hid (Only (fun _ => False) w WA) := (o2 HO8.out HA9.out).trans HOS.out (fun i hi e => by have := HBS.out; omega)
        have HSTWA := hide ((HST8.out.more HA9.out).kept HOS.out (fun q e => by have e2 : Bi = b12 := e; have := HNE12.out (by rw [← HNM8.out]; exact q); omega))
        have HNMWA := hide HNM8.out
        have HWKWA := hide HWKE.out
        obtain ⟨vc0, vc1, vc2, vc3, vc4, vc5, vc6, vc7, vc8, vc9, vc10, _, _, _, _, _, _, _, _, _, _, _, _⟩ := HVWA.out
        obtain ⟨p0, p1, p2, p3, p4, p5, pf0, pf1, pf2, pf3, pf4, pf5, pfl⟩ := HPWA.out
        have HSO3 : Hid (Calls Tryz.prog 7 #[.agg #[.int .i64 V1.m, .int .i64 V1.next, .slice q1.aA V1.act.length q1.cA, .int .i64 V1.own, .slice q1.aR V1.run.length q1.cR, .int .i64 V1.pg.lsn, .int .i64 V1.pg.kind, .int .i64 V1.pg.level, .int .i64 V1.pg.right, .string V1.pg.high, .slice q1.aP V1.pg.items.length q1.cP], .int .i64 V.next, .int .i64 7, .agg #[.int .i64 1, .int .i64 2, .int .i64 0, .int .i64 0, .string ⟨#[]⟩, .slice ai ni ci]] WA fun e w' => ∃ v0 v1 v2, e = .returned (.agg #[v0, v1, v2]) ∧ WkAt w' WA.heap.size v0 v1 v2 ⟨[], [], []⟩ ∧ Only (fun _ => False) WA w') := by
          have h := vsort_heap WA V1 q1 V.next 7 1 0 0 ⟨#[]⟩ Bi ci ai L (HSN1.out.more HXWA.out) HSTWA.out HNX.out (by rw [HNMWA.out]; have := HIL0.out; omega)
          rw [HWKWA.out, HNMWA.out] at h
          exact h
        go_wp2_with fail
        refine HSO3.out.mono ?_
        rintro e w20 ⟨u0, u1, u2, rfl, hk20, ho20⟩
        have HO20 := hide (o2 HOWA.out ho20)
        have HSA : Hid (Calls Tryz.prog 9 #[.agg #[u0, u1, u2], .agg #[.slice none 0 0, .slice none 0 0, .slice none 0 0]] w20 fun e w' => e = .returned (.bool true) ∧ Only (fun _ => False) w20 w') := vsame_eq w20 _ w20.heap.size _ _ _ _ _ _ ⟨[], [], []⟩ hk20 (WkAt.nil _ _) ⟨by decide, by decide, by decide⟩
        clear ho20 hk20 HSO3 vc0 vc1 vc2 vc3 vc4 vc5 vc6 vc7 vc8 vc9 vc10 p0 p1 p2 p3 p4 p5 pf0 pf1 pf2 pf3 pf4 pf5 pfl
        go_wp2_with fail
        refine HSA.out.mono ?_
        rintro e w21 ⟨rfl, ho21⟩
        have HO21 := hide (o2 HO20.out ho21)
        clear ho21
        go_wp2_with fail
        refine (HAW.out _).mono ?_
        rintro e w22 ⟨rfl, ho22⟩
        have HO22 := hide (o2 HO21.out ho22)
        clear ho22
        go_wp2_with fail
        go_ret
        exact ⟨rfl, HO22.out⟩
      · have HGN : Hid (¬ K.gn = []) := hg
        have HSR := hide (slG_rise HOK.out)
        have HCN : Hid (Calls Tryz.prog 12 #[.int .i64 7, .agg #[.slice a0 0 c0, .slice a1 0 c1, .slice a2 m2 c2]] W8 fun e w' => ∃ L, e = .returned (.tuple #[.agg ((clR 7 (slG K.gn)).cells L), .bool true]) ∧ RcAt w' (clR 7 (slG K.gn)) L ∧ W8.heap.size ≤ L.b1 ∧ Only (fun _ => False) W8 w') := by
          have h := vclean_yes W8 7 _ a0 a1 a2 0 c0 0 c1 c2 K.gn HG8.out (by rw [HM2.out]; have := HLE.out.2.2; have := HIL0.out; omega) HSR.out HGN.out
          rw [HM2.out] at h
          exact h
        clear hg
        go_wp2_with fail
        refine HCN.out.mono ?_
        rintro e w9 ⟨LC, rfl, hrc, hlc, ho9⟩
        obtain ⟨RC, hRC⟩ : ∃ x, clR 7 (slG K.gn) = x := ⟨_, rfl⟩
        have HRCE := hide hRC
        rw [hRC] at hrc ⊢
        clear hRC
        have HRC9 := hide hrc
        have HLC := hide hlc
        have HRQ9 := hide (HRQ8.out.more ho9)
        have HA9 := hide ho9
        clear ho9 hrc hlc HCN t0 t1 t2 z0 z1 z2 zf0 zf1 zf2 zfl
        go_upto_region 18 with (refine wpList_put_rc rfl (.tmp 12) (.tmp 82) rfl b12 rfl (Rc.none.wl5 5) RC nlL LC rfl HRQ9.out (fun y1 HS => ?_); go_frame)
        have q0 := HS.out.1.cell 0 _ rfl
        have g0 := HS.out.1.frozen 0 (by omega)
        have HOS := hide (HS.out.2.trans (Only.setCell (S := fun k => k = b12) y1 ⟨b12, 0, none⟩ (.int .i64 6) rfl) (fun _ _ h => h))
        have HR6 := hide (HS.out.1.wl 6)
        clear HS
        go_upto_region 19 with fail
        obtain ⟨WA, hWA⟩ : ∃ x, y1.setCell ⟨b12, 0, none⟩ (.int .i64 6) = x := ⟨_, rfl⟩
        rw [hWA] at HOS HR6 ⊢
        clear hWA q0 g0
        have HRWA := hide HR6.out
        have HVWA := hide ((HV8.out.more HA9.out).kept HOS.out (fun e => by have e2 : b7 = b12 := e; have := HBS.out; omega))
        have HPWA := hide ((HP8.out.more HA9.out).kept HOS.out (fun e => by have e2 : b9 = b12 := e; have := HBS.out; omega))
        have HXWA : Hid (Only (fun _ => False) w1 WA) := (o2 HX8.out HA9.out).trans HOS.out (fun i hi e => by have := HBS.out; omega)
        have HOWA : Hid (Only (fun _ => False) w WA) := (o2 HO8.out HA9.out).trans HOS.out (fun i hi e => by have := HBS.out; omega)
        have HSTWA := hide ((HST8.out.more HA9.out).kept HOS.out (fun q e => by have e2 : Bi = b12 := e; have := HNE12.out (by rw [← HNM8.out]; exact q); omega))
        have HNMWA := hide HNM8.out
        have HFWA := hide HF8.out
        have HLSWA := hide HLS8.out
        have HWKWA := hide HWK8.out
        have HRCWA : Hid (RcAt WA ((clR 7 (slG K.gn)).wl5 6) LC) := by
          unfold Hid
          have h9 := HRC9.out
          rw [← HRCE.out] at h9
          exact (h9.cln HOS.out (fun q e => by have e2 : LC.b1 = b12 := e; have := HLC.out; have := HRQ8.out.lt; omega)).wl 6
        obtain ⟨M2, hmn, hwn, hdo⟩ := do_cln WA V1 V.next V1.m 1 Bi ci ni ai L K.gn LC HWKWA.out HNMWA.out HSTWA.out HFWA.out HIL0.out HSN1.out.m (by have := HLSWA.out; omega) HRCWA.out
        have HDO := hide hdo
        rw [HRCE.out] at HDO
        have HWKn := hide hwn
        have HNMn := hide hmn
        clear hdo hwn hmn
        obtain ⟨vc0, vc1, vc2, vc3, vc4, vc5, vc6, vc7, vc8, vc9, vc10, _, _, _, _, _, _, _, _, _, _, _, _⟩ := HVWA.out
        obtain ⟨p0, p1, p2, p3, p4, p5, pf0, pf1, pf2, pf3, pf4, pf5, pfl⟩ := HPWA.out
        go_wp2_with (refine wpList_load_rc rfl (.tmp 12) rfl b12 rfl (RC.wl5 6) LC HRWA.out.range ?_; go_frame)
        refine HDO.out.mono ?_
        rintro e x1 ⟨B6, a6, c6, rfl, hsn, hfn, hon, hbn⟩
        have HAL := hide (onlyA x1 (.cells #[.int .i64 6, .int .i64 2, .int .i64 0, .int .i64 0, .string ⟨#[]⟩, .slice a6 ni c6] 30))
        have HXO := hide (o2 hon HAL.out)
        have HSTn := hide (hsn.more HAL.out)
        have HFn := hide hfn
        have HBn := hide hbn
        have HPNW := hide (Pag.new x1 (.int .i64 6) (.int .i64 2) (.int .i64 0) (.int .i64 0) (.string ⟨#[]⟩) (.slice a6 ni c6))
        clear hsn hfn hon hbn HDO vc0 vc1 vc2 vc3 vc4 vc5 vc6 vc7 vc8 vc9 vc10 p0 p1 p2 p3 p4 p5 pf0 pf1 pf2 pf3 pf4 pf5 pfl
        go_upto_region 21 with fail
        obtain ⟨b14, hb14⟩ : ∃ b, x1.heap.size = b := ⟨_, rfl⟩
        rw [hb14] at HPNW ⊢
        clear hb14
        obtain ⟨x2, hx2⟩ : ∃ x, x1.alloc (.cells #[.int .i64 6, .int .i64 2, .int .i64 0, .int .i64 0, .string ⟨#[]⟩, .slice a6 ni c6] 30) = x := ⟨_, rfl⟩
        rw [hx2] at HAL HXO HSTn HPNW ⊢
        clear hx2
        have HPx := hide (HPWA.out.more HXO.out)
        obtain ⟨p0, p1, p2, p3, p4, p5, pf0, pf1, pf2, pf3, pf4, pf5, pfl⟩ := HPx.out
        obtain ⟨r0, r1, r2, r3, r4, r5, _, _, _, _, _, _, _⟩ := HPNW.out
        go_upto_region 24 with fail
        have HPN2 : Hid (Pag ((((((x2.setCell ⟨b9, 0, none⟩ (.int .i64 6)).setCell ⟨b9, 1, none⟩ (.int .i64 2)).setCell ⟨b9, 2, none⟩ (.int .i64 0)).setCell ⟨b9, 3, none⟩ (.int .i64 0)).setCell ⟨b9, 4, none⟩ (.string ⟨#[]⟩)).setCell ⟨b9, 5, none⟩ (.slice a6 ni c6)) b9 (.int .i64 6) (.int .i64 2) (.int .i64 0) (.int .i64 0) (.string ⟨#[]⟩) (.slice a6 ni c6)) := HPx.out.six _ _ _ _ _ _
        have HS9 := hide (Only.six x2 b9 (.int .i64 6) (.int .i64 2) (.int .i64 0) (.int .i64 0) (.string ⟨#[]⟩) (.slice a6 ni c6))
        obtain ⟨WB2, hx3⟩ : ∃ x, ((((((x2.setCell ⟨b9, 0, none⟩ (.int .i64 6)).setCell ⟨b9, 1, none⟩ (.int .i64 2)).setCell ⟨b9, 2, none⟩ (.int .i64 0)).setCell ⟨b9, 3, none⟩ (.int .i64 0)).setCell ⟨b9, 4, none⟩ (.string ⟨#[]⟩)).setCell ⟨b9, 5, none⟩ (.slice a6 ni c6)) = x := ⟨_, rfl⟩
        rw [hx3] at HPN2 HS9 ⊢
        clear hx3 p0 p1 p2 p3 p4 p5 pf0 pf1 pf2 pf3 pf4 pf5 pfl r0 r1 r2 r3 r4 r5
        have HPWB2 := hide HPN2.out
        have HSTWB2 := hide (HSTn.out.kept HS9.out (fun q e => by have := HBn.out (by rw [← HNMn.out]; exact q); have e2 : B6 = b9 := e; have := HPWA.out.lt; omega))
        have HFWB2 := hide HFn.out
        have HNMWB2 := hide HNMn.out
        have HWKWB2 := hide HWKn.out
        have HVWB2 := hide ((HVWA.out.more HXO.out).kept HS9.out (fun e => by have e2 : b7 = b9 := e; have := HBS.out; omega))
        have HXWB2 : Hid (Only (fun _ => False) w1 WB2) := (o2 HXWA.out HXO.out).trans HS9.out (fun i hi e => by have := HBS.out; omega)
        have HOWB2 : Hid (Only (fun _ => False) w WB2) := (o2 HOWA.out HXO.out).trans HS9.out (fun i hi e => by have := HBS.out; omega)
        obtain ⟨vc0, vc1, vc2, vc3, vc4, vc5, vc6, vc7, vc8, vc9, vc10, _, _, _, _, _, _, _, _, _, _, _, _⟩ := HVWB2.out
        obtain ⟨p0, p1, p2, p3, p4, p5, pf0, pf1, pf2, pf3, pf4, pf5, pfl⟩ := HPWB2.out
        have HSO3 : Hid (Calls Tryz.prog 7 #[.agg #[.int .i64 V1.m, .int .i64 V1.next, .slice q1.aA V1.act.length q1.cA, .int .i64 V1.own, .slice q1.aR V1.run.length q1.cR, .int .i64 V1.pg.lsn, .int .i64 V1.pg.kind, .int .i64 V1.pg.level, .int .i64 V1.pg.right, .string V1.pg.high, .slice q1.aP V1.pg.items.length q1.cP], .int .i64 V.next, .int .i64 7, .agg #[.int .i64 6, .int .i64 2, .int .i64 0, .int .i64 0, .string ⟨#[]⟩, .slice a6 ni c6]] WB2 fun e w' => ∃ v0 v1 v2, e = .returned (.agg #[v0, v1, v2]) ∧ WkAt w' WB2.heap.size v0 v1 v2 ⟨[], [], []⟩ ∧ Only (fun _ => False) WB2 w') := by
          have h := vsort_heap WB2 V1 q1 V.next 7 6 0 0 ⟨#[]⟩ B6 c6 a6 M2 (HSN1.out.more HXWB2.out) HSTWB2.out HNX.out (by rw [HNMWB2.out]; have := HIL0.out; omega)
          rw [HWKWB2.out, HNMWB2.out] at h
          exact h
        go_wp2_with fail
        refine HSO3.out.mono ?_
        rintro e w20 ⟨u0, u1, u2, rfl, hk20, ho20⟩
        have HO20 := hide (o2 HOWB2.out ho20)
        have HSA : Hid (Calls Tryz.prog 9 #[.agg #[u0, u1, u2], .agg #[.slice none 0 0, .slice none 0 0, .slice none 0 0]] w20 fun e w' => e = .returned (.bool true) ∧ Only (fun _ => False) w20 w') := vsame_eq w20 _ w20.heap.size _ _ _ _ _ _ ⟨[], [], []⟩ hk20 (WkAt.nil _ _) ⟨by decide, by decide, by decide⟩
        clear ho20 hk20 HSO3 vc0 vc1 vc2 vc3 vc4 vc5 vc6 vc7 vc8 vc9 vc10 p0 p1 p2 p3 p4 p5 pf0 pf1 pf2 pf3 pf4 pf5 pfl
        go_wp2_with fail
        refine HSA.out.mono ?_
        rintro e w21 ⟨rfl, ho21⟩
        have HO21 := hide (o2 HO20.out ho21)
        clear ho21
        go_wp2_with fail
        refine (HAW.out _).mono ?_
        rintro e w22 ⟨rfl, ho22⟩
        have HO22 := hide (o2 HO21.out ho22)
        clear ho22
        go_wp2_with fail
        go_ret
        exact ⟨rfl, HO22.out⟩
    · have HNF : Hid (¬ (K.fr = [] ∧ K.of = [])) := hfo
      have HFZ : Hid (Calls Tryz.prog 10 #[.int .i64 7, .agg #[.slice a0 m0 c0, .slice a1 m1 c1, .slice a2 m2 c2]] W3 fun e w' => ∃ L, e = .returned (.tuple #[.agg ((frR 7 K).cells L), .bool true]) ∧ RcAt w' (frR 7 K) L ∧ Only (fun _ => False) W3 w') := by
        have h := vfreeze_yes W3 7 _ a0 a1 a2 c0 c1 m2 c2 K HF3.out HG3'.out (by rw [HM0.out]; have := HLE.out.1; have := HIL0.out; omega) (by rw [HM1.out]; have := HLE.out.2.1; have := HIL0.out; omega) HNF.out
        rw [HM0.out, HM1.out] at h
        exact h
      clear hfo
      go_wp2_with fail
      refine HFZ.out.mono ?_
      rintro e w4 ⟨LF, rfl, hrc, ho4⟩
      obtain ⟨RF, hRF⟩ : ∃ x, frR 7 K = x := ⟨_, rfl⟩
      have HRFE := hide hRF
      rw [hRF] at hrc ⊢
      clear hRF
      have HRC4 := hide hrc
      have HA4 := hide ho4
      clear ho4 hrc HFZ z0 z1 z2 zf0 zf1 zf2 zfl
      go_upto_region 8 with (refine wpList_put_rc rfl (.tmp 12) (.tmp 40) rfl w4.heap.size rfl Rc.none RF nlL LF rfl (HZN.out w4) (fun y1 HS => ?_); go_frame)
      have q0 := HS.out.1.cell 0 _ rfl
      have g0 := HS.out.1.frozen 0 (by omega)
      have HOS : Hid (Only (fun _ => False) w4 (y1.setCell ⟨w4.heap.size, 0, none⟩ (.int .i64 5))) := (HZA.out w4).trans (HS.out.2.trans (Only.setCell (S := fun k => k = w4.heap.size) y1 ⟨w4.heap.size, 0, none⟩ (.int .i64 5) rfl) (fun _ _ h => h)) (fun i hi e => by omega)
      have HR5 := hide (HS.out.1.wl 5)
      clear HS
      go_upto_region 9 with fail
      obtain ⟨WD1, hW5⟩ : ∃ x, y1.setCell ⟨w4.heap.size, 0, none⟩ (.int .i64 5) = x := ⟨_, rfl⟩
      rw [hW5] at HOS HR5 ⊢
      clear hW5 q0 g0
      have HB12 : Hid (W3.heap.size ≤ w4.heap.size) := HA4.out.size
      obtain ⟨b12, hb12⟩ : ∃ b, w4.heap.size = b := ⟨_, rfl⟩
      rw [hb12] at HR5 HB12 ⊢
      clear hb12
      have HBS : Hid (w1.heap.size = b7 ∧ w.heap.size ≤ b7 ∧ b7 < b9 ∧ b9 < b11 ∧ b11 < b12) := ⟨HB7E.out, HB7.out, HB9.out, by have := HB11.out; omega, by have := HB12.out; have := HW3.out.lt; omega⟩
      have HA5 := hide (o2 HA4.out HOS.out)
      have HRWD1 := hide HR5.out
      have HVWD1 := hide (HV3.out.more HA5.out)
      have HPWD1 := hide (HP3.out.more HA5.out)
      have HSTWD1 := hide (HST3.out.more HA5.out)
      have HFWD1 := hide HFI.out
      have HNMWD1 := hide HNI.out
      have HWKWD1 := hide HWKQ.out
      have HLSWD1 : Hid ((1 : Int) < 5) := by unfold Hid; decide
      have HXWD1 := hide (o2 HX3.out HA5.out)
      have HOWD1 := hide (o2 HOW3.out HA5.out)
      have HRCWD1 : Hid (RcAt WD1 ((frR 7 K).wl5 5) LF) := by
        have h9 := HRC4.out
        rw [← HRFE.out] at h9
        exact (h9.go HOS.out).wl 5
      obtain ⟨M1, hmn, hwn, hdo⟩ := do_frz WD1 V1 V.next V1.m 1 Bi ci ni ai L K LF HWKWD1.out HNMWD1.out HSTWD1.out HFWD1.out HIL0.out HSN1.out.m (by have := HLSWD1.out; omega) HRCWD1.out
      have HDO := hide hdo
      rw [HRFE.out] at HDO
      have HWKn := hide hwn
      have HNMn := hide hmn
      clear hdo hwn hmn
      obtain ⟨vc0, vc1, vc2, vc3, vc4, vc5, vc6, vc7, vc8, vc9, vc10, _, _, _, _, _, _, _, _, _, _, _, _⟩ := HVWD1.out
      obtain ⟨p0, p1, p2, p3, p4, p5, pf0, pf1, pf2, pf3, pf4, pf5, pfl⟩ := HPWD1.out
      go_wp2_with (refine wpList_load_rc rfl (.tmp 12) rfl b12 rfl (RF.wl5 5) LF HRWD1.out.range ?_; go_frame)
      refine HDO.out.mono ?_
      rintro e x1 ⟨B5, a5, c5, rfl, hsn, hfn, hon, hbn⟩
      have HAL := hide (onlyA x1 (.cells #[.int .i64 5, .int .i64 2, .int .i64 0, .int .i64 0, .string ⟨#[]⟩, .slice a5 ni c5] 30))
      have HXO := hide (o2 hon HAL.out)
      have HSTn := hide (hsn.more HAL.out)
      have HFn := hide hfn
      have HBn := hide hbn
      have HPNW := hide (Pag.new x1 (.int .i64 5) (.int .i64 2) (.int .i64 0) (.int .i64 0) (.string ⟨#[]⟩) (.slice a5 ni c5))
      clear hsn hfn hon hbn HDO vc0 vc1 vc2 vc3 vc4 vc5 vc6 vc7 vc8 vc9 vc10 p0 p1 p2 p3 p4 p5 pf0 pf1 pf2 pf3 pf4 pf5 pfl
      go_upto_region 11 with fail
      obtain ⟨b14, hb14⟩ : ∃ b, x1.heap.size = b := ⟨_, rfl⟩
      rw [hb14] at HPNW ⊢
      clear hb14
      obtain ⟨x2, hx2⟩ : ∃ x, x1.alloc (.cells #[.int .i64 5, .int .i64 2, .int .i64 0, .int .i64 0, .string ⟨#[]⟩, .slice a5 ni c5] 30) = x := ⟨_, rfl⟩
      rw [hx2] at HAL HXO HSTn HPNW ⊢
      clear hx2
      have HPx := hide (HPWD1.out.more HXO.out)
      obtain ⟨p0, p1, p2, p3, p4, p5, pf0, pf1, pf2, pf3, pf4, pf5, pfl⟩ := HPx.out
      obtain ⟨r0, r1, r2, r3, r4, r5, _, _, _, _, _, _, _⟩ := HPNW.out
      go_upto_region 14 with fail
      have HPN2 : Hid (Pag ((((((x2.setCell ⟨b9, 0, none⟩ (.int .i64 5)).setCell ⟨b9, 1, none⟩ (.int .i64 2)).setCell ⟨b9, 2, none⟩ (.int .i64 0)).setCell ⟨b9, 3, none⟩ (.int .i64 0)).setCell ⟨b9, 4, none⟩ (.string ⟨#[]⟩)).setCell ⟨b9, 5, none⟩ (.slice a5 ni c5)) b9 (.int .i64 5) (.int .i64 2) (.int .i64 0) (.int .i64 0) (.string ⟨#[]⟩) (.slice a5 ni c5)) := HPx.out.six _ _ _ _ _ _
      have HS9 := hide (Only.six x2 b9 (.int .i64 5) (.int .i64 2) (.int .i64 0) (.int .i64 0) (.string ⟨#[]⟩) (.slice a5 ni c5))
      obtain ⟨W5, hx3⟩ : ∃ x, ((((((x2.setCell ⟨b9, 0, none⟩ (.int .i64 5)).setCell ⟨b9, 1, none⟩ (.int .i64 2)).setCell ⟨b9, 2, none⟩ (.int .i64 0)).setCell ⟨b9, 3, none⟩ (.int .i64 0)).setCell ⟨b9, 4, none⟩ (.string ⟨#[]⟩)).setCell ⟨b9, 5, none⟩ (.slice a5 ni c5)) = x := ⟨_, rfl⟩
      rw [hx3] at HPN2 HS9 ⊢
      clear hx3 p0 p1 p2 p3 p4 p5 pf0 pf1 pf2 pf3 pf4 pf5 pfl r0 r1 r2 r3 r4 r5
      have HPW5 := hide HPN2.out
      have HSTW5 := hide (HSTn.out.kept HS9.out (fun q e => by have := HBn.out (by rw [← HNMn.out]; exact q); have e2 : B5 = b9 := e; have := HPWD1.out.lt; omega))
      have HFW5 := hide HFn.out
      have HNMW5 := hide HNMn.out
      have HWKW5 := hide HWKn.out
      have HVW5 := hide ((HVWD1.out.more HXO.out).kept HS9.out (fun e => by have e2 : b7 = b9 := e; have := HBS.out; omega))
      have HXW5 : Hid (Only (fun _ => False) w1 W5) := (o2 HXWD1.out HXO.out).trans HS9.out (fun i hi e => by have := HBS.out; omega)
      have HOW5 : Hid (Only (fun _ => False) w W5) := (o2 HOWD1.out HXO.out).trans HS9.out (fun i hi e => by have := HBS.out; omega)
      have HOD : Hid (Only (fun k => k = b9) WD1 W5) := (HXO.out.mono (fun _ _ e => e.elim)).trans HS9.out (fun _ _ e => e)
      have HRQW5 := hide (HRWD1.out.kept HOD.out (fun e => by have e2 : b12 = b9 := e; have := HBS.out; omega))
      have HGW5 := hide ((HG3.out.more HA5.out).kept HOD.out (fun k hk e => by have e2 : k = b9 := e; have := (HG3.out.low k hk).1; have := HB11.out; omega))
      have HWBW5 := hide ((HW3.out.more HA5.out).kept HOD.out (fun e => by have e2 : b11 = b9 := e; have := HBS.out; omega))
      have HLSW5 : Hid ((5 : Int) < 6) := by unfold Hid; decide
      have HNE12 : Hid (0 < ni → B5 ≠ b12) := fun q => by have := HBn.out q; have := HRWD1.out.lt; omega
      obtain ⟨vc0, vc1, vc2, vc3, vc4, vc5, vc6, vc7, vc8, vc9, vc10, _, _, _, _, _, _, _, _, _, _, _, _⟩ := HVW5.out
      obtain ⟨p0, p1, p2, p3, p4, p5, pf0, pf1, pf2, pf3, pf4, pf5, pfl⟩ := HPW5.out
      have HSO2 : Hid (Calls Tryz.prog 7 #[.agg #[.int .i64 V1.m, .int .i64 V1.next, .slice q1.aA V1.act.length q1.cA, .int .i64 V1.own, .slice q1.aR V1.run.length q1.cR, .int .i64 V1.pg.lsn, .int .i64 V1.pg.kind, .int .i64 V1.pg.level, .int .i64 V1.pg.right, .string V1.pg.high, .slice q1.aP V1.pg.items.length q1.cP], .int .i64 V.next, .int .i64 7, .agg #[.int .i64 5, .int .i64 2, .int .i64 0, .int .i64 0, .string ⟨#[]⟩, .slice a5 ni c5]] W5 fun e w' => ∃ v0 v1 v2, e = .returned (.agg #[v0, v1, v2]) ∧ WkAt w' W5.heap.size v0 v1 v2 ⟨[], [], K.gn⟩ ∧ Only (fun _ => False) W5 w') := by
        have h := vsort_heap W5 V1 q1 V.next 7 5 0 0 ⟨#[]⟩ B5 c5 a5 M1 (HSN1.out.more HXW5.out) HSTW5.out HNX.out (by rw [HNMW5.out]; have := HIL0.out; omega)
        rw [HWKW5.out, HNMW5.out] at h
        exact h
      go_wp2_with fail
      refine HSO2.out.mono ?_
      rintro e w8 ⟨u0, u1, u2, rfl, hk8, ho8⟩
      obtain ⟨d0, f0, rfl⟩ := hk8.fr.form
      obtain ⟨d1, f1, rfl⟩ := hk8.of.form
      obtain ⟨d2, f2, rfl⟩ := hk8.gn.form
      rw [show ([] : List Int).length = 0 from rfl]
      rw [HM2.out]
      clear hk8 HSO2 vc0 vc1 vc2 vc3 vc4 vc5 vc6 vc7 vc8 vc9 vc10 p0 p1 p2 p3 p4 p5 pf0 pf1 pf2 pf3 pf4 pf5 pfl
      have HA8 := hide (o2 ho8 (onlyA w8 (.cells #[.slice d0 0 f0, .slice d1 0 f1, .slice d2 m2 f2] 39)))
      have HU8 := hide (WB.new w8 39 (.slice d0 0 f0) (.slice d1 0 f1) (.slice d2 m2 f2))
      clear ho8
      go_upto_region 15 with fail
      obtain ⟨b16, hb16⟩ : ∃ b, w8.heap.size = b := ⟨_, rfl⟩
      rw [hb16] at HU8 ⊢
      clear hb16
      obtain ⟨W8, hW8⟩ : ∃ x, w8.alloc (.cells #[.slice d0 0 f0, .slice d1 0 f1, .slice d2 m2 f2] 39) = x := ⟨_, rfl⟩
      rw [hW8] at HA8 HU8 ⊢
      clear hW8
      obtain ⟨t0, t1, t2, _, _, _, _⟩ := HU8.out
      have HWB8 := hide (HWBW5.out.more HA8.out)
      obtain ⟨z0, z1, z2, zf0, zf1, zf2, zfl⟩ := HWB8.out
      have HV8 := hide (HVW5.out.more HA8.out)
      have HP8 := hide (HPW5.out.more HA8.out)
      have HST8 := hide (HSTW5.out.more HA8.out)
      have HRQ8 := hide (HRQW5.out.more HA8.out)
      have HG8 := hide (HGW5.out.more HA8.out)
      have HF8 := hide HFW5.out
      have HNM8 := hide HNMW5.out
      have HWK8 := hide HWKW5.out
      have HLS8 := hide HLSW5.out
      have HX8 := hide (o2 HXW5.out HA8.out)
      have HO8 := hide (o2 HOW5.out HA8.out)
      by_cases hg : K.gn = []
      · have hg0 : m2 = 0 := by rw [← HM2.out, hg]; rfl
        subst hg0
        have HCN := hide (fun W => vclean_no W 7 a0 a1 a2 m0 c0 m1 c1 c2)
        have HWKE : Hid (wkN V1 V.next 7 M1 M1.length = ⟨[], [], []⟩) := by unfold Hid; rw [HWK8.out, hg]
        clear hg
        go_wp2_with fail
        refine (HCN.out _).mono ?_
        rintro e w9 ⟨rfl, ho9⟩
        have HRQ9 := hide (HRQ8.out.more ho9)
        have HA9 := hide ho9
        clear ho9 t0 t1 t2 z0 z1 z2 zf0 zf1 zf2 zfl
        go_upto_region 18 with (refine wpList_put_rc rfl (.tmp 12) (.tmp 82) rfl b12 rfl (RF.wl5 5) Rc.none LF nlL rfl HRQ9.out (fun y1 HS => ?_); go_frame)
        have q0 := HS.out.1.cell 0 _ rfl
        have g0 := HS.out.1.frozen 0 (by omega)
        have HOS := hide (HS.out.2.trans (Only.setCell (S := fun k => k = b12) y1 ⟨b12, 0, none⟩ (.int .i64 6) rfl) (fun _ _ h => h))
        clear HS
        go_upto_region 19 with fail
        obtain ⟨WA, hWA⟩ : ∃ x, y1.setCell ⟨b12, 0, none⟩ (.int .i64 6) = x := ⟨_, rfl⟩
        rw [hWA] at HOS ⊢
        clear hWA q0 g0
        have HVWA := hide ((HV8.out.more HA9.out).kept HOS.out (fun e => by have e2 : b7 = b12 := e; have := HBS.out; omega))
        have HPWA := hide ((HP8.out.more HA9.out).kept HOS.out (fun e => by have e2 : b9 = b12 := e; have := HBS.out; omega))
        have HXWA : Hid (Only (fun _ => False) w1 WA) := (o2 HX8.out HA9.out).trans HOS.out (fun i hi e => by have := HBS.out; omega)
        have HOWA : Hid (Only (fun _ => False) w WA) := (o2 HO8.out HA9.out).trans HOS.out (fun i hi e => by have := HBS.out; omega)
        have HSTWA := hide ((HST8.out.more HA9.out).kept HOS.out (fun q e => by have e2 : B5 = b12 := e; have := HNE12.out (by rw [← HNM8.out]; exact q); omega))
        have HNMWA := hide HNM8.out
        have HWKWA := hide HWKE.out
        obtain ⟨vc0, vc1, vc2, vc3, vc4, vc5, vc6, vc7, vc8, vc9, vc10, _, _, _, _, _, _, _, _, _, _, _, _⟩ := HVWA.out
        obtain ⟨p0, p1, p2, p3, p4, p5, pf0, pf1, pf2, pf3, pf4, pf5, pfl⟩ := HPWA.out
        have HSO3 : Hid (Calls Tryz.prog 7 #[.agg #[.int .i64 V1.m, .int .i64 V1.next, .slice q1.aA V1.act.length q1.cA, .int .i64 V1.own, .slice q1.aR V1.run.length q1.cR, .int .i64 V1.pg.lsn, .int .i64 V1.pg.kind, .int .i64 V1.pg.level, .int .i64 V1.pg.right, .string V1.pg.high, .slice q1.aP V1.pg.items.length q1.cP], .int .i64 V.next, .int .i64 7, .agg #[.int .i64 5, .int .i64 2, .int .i64 0, .int .i64 0, .string ⟨#[]⟩, .slice a5 ni c5]] WA fun e w' => ∃ v0 v1 v2, e = .returned (.agg #[v0, v1, v2]) ∧ WkAt w' WA.heap.size v0 v1 v2 ⟨[], [], []⟩ ∧ Only (fun _ => False) WA w') := by
          have h := vsort_heap WA V1 q1 V.next 7 5 0 0 ⟨#[]⟩ B5 c5 a5 M1 (HSN1.out.more HXWA.out) HSTWA.out HNX.out (by rw [HNMWA.out]; have := HIL0.out; omega)
          rw [HWKWA.out, HNMWA.out] at h
          exact h
        go_wp2_with fail
        refine HSO3.out.mono ?_
        rintro e w20 ⟨u0, u1, u2, rfl, hk20, ho20⟩
        have HO20 := hide (o2 HOWA.out ho20)
        have HSA : Hid (Calls Tryz.prog 9 #[.agg #[u0, u1, u2], .agg #[.slice none 0 0, .slice none 0 0, .slice none 0 0]] w20 fun e w' => e = .returned (.bool true) ∧ Only (fun _ => False) w20 w') := vsame_eq w20 _ w20.heap.size _ _ _ _ _ _ ⟨[], [], []⟩ hk20 (WkAt.nil _ _) ⟨by decide, by decide, by decide⟩
        clear ho20 hk20 HSO3 vc0 vc1 vc2 vc3 vc4 vc5 vc6 vc7 vc8 vc9 vc10 p0 p1 p2 p3 p4 p5 pf0 pf1 pf2 pf3 pf4 pf5 pfl
        go_wp2_with fail
        refine HSA.out.mono ?_
        rintro e w21 ⟨rfl, ho21⟩
        have HO21 := hide (o2 HO20.out ho21)
        clear ho21
        go_wp2_with fail
        refine (HAW.out _).mono ?_
        rintro e w22 ⟨rfl, ho22⟩
        have HO22 := hide (o2 HO21.out ho22)
        clear ho22
        go_wp2_with fail
        go_ret
        exact ⟨rfl, HO22.out⟩
      · have HGN : Hid (¬ K.gn = []) := hg
        have HSR := hide (slG_rise HOK.out)
        have HCN : Hid (Calls Tryz.prog 12 #[.int .i64 7, .agg #[.slice a0 m0 c0, .slice a1 m1 c1, .slice a2 m2 c2]] W8 fun e w' => ∃ L, e = .returned (.tuple #[.agg ((clR 7 (slG K.gn)).cells L), .bool true]) ∧ RcAt w' (clR 7 (slG K.gn)) L ∧ W8.heap.size ≤ L.b1 ∧ Only (fun _ => False) W8 w') := by
          have h := vclean_yes W8 7 _ a0 a1 a2 m0 c0 m1 c1 c2 K.gn HG8.out (by rw [HM2.out]; have := HLE.out.2.2; have := HIL0.out; omega) HSR.out HGN.out
          rw [HM2.out] at h
          exact h
        clear hg
        go_wp2_with fail
        refine HCN.out.mono ?_
        rintro e w9 ⟨LC, rfl, hrc, hlc, ho9⟩
        obtain ⟨RC, hRC⟩ : ∃ x, clR 7 (slG K.gn) = x := ⟨_, rfl⟩
        have HRCE := hide hRC
        rw [hRC] at hrc ⊢
        clear hRC
        have HRC9 := hide hrc
        have HLC := hide hlc
        have HRQ9 := hide (HRQ8.out.more ho9)
        have HA9 := hide ho9
        clear ho9 hrc hlc HCN t0 t1 t2 z0 z1 z2 zf0 zf1 zf2 zfl
        go_upto_region 18 with (refine wpList_put_rc rfl (.tmp 12) (.tmp 82) rfl b12 rfl (RF.wl5 5) RC LF LC rfl HRQ9.out (fun y1 HS => ?_); go_frame)
        have q0 := HS.out.1.cell 0 _ rfl
        have g0 := HS.out.1.frozen 0 (by omega)
        have HOS := hide (HS.out.2.trans (Only.setCell (S := fun k => k = b12) y1 ⟨b12, 0, none⟩ (.int .i64 6) rfl) (fun _ _ h => h))
        have HR6 := hide (HS.out.1.wl 6)
        clear HS
        go_upto_region 19 with fail
        obtain ⟨WA, hWA⟩ : ∃ x, y1.setCell ⟨b12, 0, none⟩ (.int .i64 6) = x := ⟨_, rfl⟩
        rw [hWA] at HOS HR6 ⊢
        clear hWA q0 g0
        have HRWA := hide HR6.out
        have HVWA := hide ((HV8.out.more HA9.out).kept HOS.out (fun e => by have e2 : b7 = b12 := e; have := HBS.out; omega))
        have HPWA := hide ((HP8.out.more HA9.out).kept HOS.out (fun e => by have e2 : b9 = b12 := e; have := HBS.out; omega))
        have HXWA : Hid (Only (fun _ => False) w1 WA) := (o2 HX8.out HA9.out).trans HOS.out (fun i hi e => by have := HBS.out; omega)
        have HOWA : Hid (Only (fun _ => False) w WA) := (o2 HO8.out HA9.out).trans HOS.out (fun i hi e => by have := HBS.out; omega)
        have HSTWA := hide ((HST8.out.more HA9.out).kept HOS.out (fun q e => by have e2 : B5 = b12 := e; have := HNE12.out (by rw [← HNM8.out]; exact q); omega))
        have HNMWA := hide HNM8.out
        have HFWA := hide HF8.out
        have HLSWA := hide HLS8.out
        have HWKWA := hide HWK8.out
        have HRCWA : Hid (RcAt WA ((clR 7 (slG K.gn)).wl5 6) LC) := by
          unfold Hid
          have h9 := HRC9.out
          rw [← HRCE.out] at h9
          exact (h9.cln HOS.out (fun q e => by have e2 : LC.b1 = b12 := e; have := HLC.out; have := HRQ8.out.lt; omega)).wl 6
        obtain ⟨M2, hmn, hwn, hdo⟩ := do_cln WA V1 V.next V1.m 5 B5 c5 ni a5 M1 K.gn LC HWKWA.out HNMWA.out HSTWA.out HFWA.out HIL0.out HSN1.out.m (by have := HLSWA.out; omega) HRCWA.out
        have HDO := hide hdo
        rw [HRCE.out] at HDO
        have HWKn := hide hwn
        have HNMn := hide hmn
        clear hdo hwn hmn
        obtain ⟨vc0, vc1, vc2, vc3, vc4, vc5, vc6, vc7, vc8, vc9, vc10, _, _, _, _, _, _, _, _, _, _, _, _⟩ := HVWA.out
        obtain ⟨p0, p1, p2, p3, p4, p5, pf0, pf1, pf2, pf3, pf4, pf5, pfl⟩ := HPWA.out
        go_wp2_with (refine wpList_load_rc rfl (.tmp 12) rfl b12 rfl (RC.wl5 6) LC HRWA.out.range ?_; go_frame)
        refine HDO.out.mono ?_
        rintro e x1 ⟨B6, a6, c6, rfl, hsn, hfn, hon, hbn⟩
        have HAL := hide (onlyA x1 (.cells #[.int .i64 6, .int .i64 2, .int .i64 0, .int .i64 0, .string ⟨#[]⟩, .slice a6 ni c6] 30))
        have HXO := hide (o2 hon HAL.out)
        have HSTn := hide (hsn.more HAL.out)
        have HFn := hide hfn
        have HBn := hide hbn
        have HPNW := hide (Pag.new x1 (.int .i64 6) (.int .i64 2) (.int .i64 0) (.int .i64 0) (.string ⟨#[]⟩) (.slice a6 ni c6))
        clear hsn hfn hon hbn HDO vc0 vc1 vc2 vc3 vc4 vc5 vc6 vc7 vc8 vc9 vc10 p0 p1 p2 p3 p4 p5 pf0 pf1 pf2 pf3 pf4 pf5 pfl
        go_upto_region 21 with fail
        obtain ⟨b14, hb14⟩ : ∃ b, x1.heap.size = b := ⟨_, rfl⟩
        rw [hb14] at HPNW ⊢
        clear hb14
        obtain ⟨x2, hx2⟩ : ∃ x, x1.alloc (.cells #[.int .i64 6, .int .i64 2, .int .i64 0, .int .i64 0, .string ⟨#[]⟩, .slice a6 ni c6] 30) = x := ⟨_, rfl⟩
        rw [hx2] at HAL HXO HSTn HPNW ⊢
        clear hx2
        have HPx := hide (HPWA.out.more HXO.out)
        obtain ⟨p0, p1, p2, p3, p4, p5, pf0, pf1, pf2, pf3, pf4, pf5, pfl⟩ := HPx.out
        obtain ⟨r0, r1, r2, r3, r4, r5, _, _, _, _, _, _, _⟩ := HPNW.out
        go_upto_region 24 with fail
        have HPN2 : Hid (Pag ((((((x2.setCell ⟨b9, 0, none⟩ (.int .i64 6)).setCell ⟨b9, 1, none⟩ (.int .i64 2)).setCell ⟨b9, 2, none⟩ (.int .i64 0)).setCell ⟨b9, 3, none⟩ (.int .i64 0)).setCell ⟨b9, 4, none⟩ (.string ⟨#[]⟩)).setCell ⟨b9, 5, none⟩ (.slice a6 ni c6)) b9 (.int .i64 6) (.int .i64 2) (.int .i64 0) (.int .i64 0) (.string ⟨#[]⟩) (.slice a6 ni c6)) := HPx.out.six _ _ _ _ _ _
        have HS9 := hide (Only.six x2 b9 (.int .i64 6) (.int .i64 2) (.int .i64 0) (.int .i64 0) (.string ⟨#[]⟩) (.slice a6 ni c6))
        obtain ⟨WB2, hx3⟩ : ∃ x, ((((((x2.setCell ⟨b9, 0, none⟩ (.int .i64 6)).setCell ⟨b9, 1, none⟩ (.int .i64 2)).setCell ⟨b9, 2, none⟩ (.int .i64 0)).setCell ⟨b9, 3, none⟩ (.int .i64 0)).setCell ⟨b9, 4, none⟩ (.string ⟨#[]⟩)).setCell ⟨b9, 5, none⟩ (.slice a6 ni c6)) = x := ⟨_, rfl⟩
        rw [hx3] at HPN2 HS9 ⊢
        clear hx3 p0 p1 p2 p3 p4 p5 pf0 pf1 pf2 pf3 pf4 pf5 pfl r0 r1 r2 r3 r4 r5
        have HPWB2 := hide HPN2.out
        have HSTWB2 := hide (HSTn.out.kept HS9.out (fun q e => by have := HBn.out (by rw [← HNMn.out]; exact q); have e2 : B6 = b9 := e; have := HPWA.out.lt; omega))
        have HFWB2 := hide HFn.out
        have HNMWB2 := hide HNMn.out
        have HWKWB2 := hide HWKn.out
        have HVWB2 := hide ((HVWA.out.more HXO.out).kept HS9.out (fun e => by have e2 : b7 = b9 := e; have := HBS.out; omega))
        have HXWB2 : Hid (Only (fun _ => False) w1 WB2) := (o2 HXWA.out HXO.out).trans HS9.out (fun i hi e => by have := HBS.out; omega)
        have HOWB2 : Hid (Only (fun _ => False) w WB2) := (o2 HOWA.out HXO.out).trans HS9.out (fun i hi e => by have := HBS.out; omega)
        obtain ⟨vc0, vc1, vc2, vc3, vc4, vc5, vc6, vc7, vc8, vc9, vc10, _, _, _, _, _, _, _, _, _, _, _, _⟩ := HVWB2.out
        obtain ⟨p0, p1, p2, p3, p4, p5, pf0, pf1, pf2, pf3, pf4, pf5, pfl⟩ := HPWB2.out
        have HSO3 : Hid (Calls Tryz.prog 7 #[.agg #[.int .i64 V1.m, .int .i64 V1.next, .slice q1.aA V1.act.length q1.cA, .int .i64 V1.own, .slice q1.aR V1.run.length q1.cR, .int .i64 V1.pg.lsn, .int .i64 V1.pg.kind, .int .i64 V1.pg.level, .int .i64 V1.pg.right, .string V1.pg.high, .slice q1.aP V1.pg.items.length q1.cP], .int .i64 V.next, .int .i64 7, .agg #[.int .i64 6, .int .i64 2, .int .i64 0, .int .i64 0, .string ⟨#[]⟩, .slice a6 ni c6]] WB2 fun e w' => ∃ v0 v1 v2, e = .returned (.agg #[v0, v1, v2]) ∧ WkAt w' WB2.heap.size v0 v1 v2 ⟨[], [], []⟩ ∧ Only (fun _ => False) WB2 w') := by
          have h := vsort_heap WB2 V1 q1 V.next 7 6 0 0 ⟨#[]⟩ B6 c6 a6 M2 (HSN1.out.more HXWB2.out) HSTWB2.out HNX.out (by rw [HNMWB2.out]; have := HIL0.out; omega)
          rw [HWKWB2.out, HNMWB2.out] at h
          exact h
        go_wp2_with fail
        refine HSO3.out.mono ?_
        rintro e w20 ⟨u0, u1, u2, rfl, hk20, ho20⟩
        have HO20 := hide (o2 HOWB2.out ho20)
        have HSA : Hid (Calls Tryz.prog 9 #[.agg #[u0, u1, u2], .agg #[.slice none 0 0, .slice none 0 0, .slice none 0 0]] w20 fun e w' => e = .returned (.bool true) ∧ Only (fun _ => False) w20 w') := vsame_eq w20 _ w20.heap.size _ _ _ _ _ _ ⟨[], [], []⟩ hk20 (WkAt.nil _ _) ⟨by decide, by decide, by decide⟩
        clear ho20 hk20 HSO3 vc0 vc1 vc2 vc3 vc4 vc5 vc6 vc7 vc8 vc9 vc10 p0 p1 p2 p3 p4 p5 pf0 pf1 pf2 pf3 pf4 pf5 pfl
        go_wp2_with fail
        refine HSA.out.mono ?_
        rintro e w21 ⟨rfl, ho21⟩
        have HO21 := hide (o2 HO20.out ho21)
        clear ho21
        go_wp2_with fail
        refine (HAW.out _).mono ?_
        rintro e w22 ⟨rfl, ho22⟩
        have HO22 := hide (o2 HO21.out ho22)
        clear ho22
        go_wp2_with fail
        go_ret
        exact ⟨rfl, HO22.out⟩
end Go.Proofs.YtpnbhddmdfcjdaaGreat
