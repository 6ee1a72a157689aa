/- ApplyRow's walk. -/
import Derived.Test.YtphofhicehncgaaGreatK47
import Derived.Test.YtphofhicehncgaaGreatKYOpenR
namespace Go.Proofs.YtphofhicehncgaaGreat
open Go.RowKit

/-- A record at another place. -/
def Rc.wl (R : Rc) (n : Int) : Rc := ⟨n, R.prev, R.next, R.kind, R.xid, R.page, R.slot, R.old, R.new, R.redo, R.data, R.slots, R.more, R.images, R.pages, R.txns⟩
/-- Where the pages are the same, or the record has an image, both become the same. -/
theorem row_step {m n : Int} {A B : Pg} {R : Rc} (h : A = B ∨ (imP n R.images).isSome = true) : doP m B n R = doP m A n R := by
  rcases h with rfl | h
  · rfl
  · obtain ⟨q, hq⟩ := Option.isSome_iff_exists.1 h
    unfold doP
    rw [hq]
/-- A page in a variable, its items apart from both variables. -/
structure Vp (w W : World) (b : Nat) (p : Pg) (ba bb : Nat) : Prop where
  ex : ∃ B ao cp, Pag W b (.int .i64 p.lsn) (.int .i64 p.kind) (.int .i64 p.level) (.int .i64 p.right) (.string p.high) (.slice ao p.items.length cp) ∧ Strs W B ao p.items ∧ Fit ao p.items.length cp ∧ (0 < p.items.length → B ≠ ba ∧ B ≠ bb)
  pw : Pw p
theorem Vp.lt {w W : World} {b ba bb : Nat} {p : Pg} (h : Vp w W b p ba bb) : b < W.heap.size := by
  obtain ⟨⟨B, ao, cp, h1, _⟩, _⟩ := h
  exact h1.lt
theorem Vp.keptP {w W W' : World} {b ba bb c : Nat} {p : Pg} (h : Vp w W b p ba bb) (ho : Only (fun k => k = c) W W') (hb : ¬ b = c) (hc : ∀ {x : Nat}, (x ≠ ba ∧ x ≠ bb) → x ≠ c) : Vp w W' b p ba bb := by
  obtain ⟨⟨B, ao, cp, h1, h2, h3, h4⟩, h5⟩ := h
  exact ⟨⟨B, ao, cp, h1.kept ho hb, h2.kept ho (fun h0 e => hc (h4 h0) e), h3, h4⟩, h5⟩
theorem imP_snoc (page : Int) (l : List Im) (k : Nat) (h : k < l.length) : (imP page (l.take (k + 1))).isSome = ((imP page (l.take k)).isSome || (l[k].page == page)) := by
  rw [Bool.eq_iff_iff]
  simp only [Bool.or_eq_true, imP_page, beq_iff_eq, List.take_succ_eq_append_getElem h, List.map_append, List.mem_append, List.map_cons, List.map_nil, List.mem_singleton]
  exact ⟨fun q => q.imp id Eq.symm, fun q => q.imp id Eq.symm⟩
theorem ims_high {w : World} {R : Rc} {L : Loc} (h : RcAt w R L) : ∀ i ∈ R.images, i.body.high.size ≤ 140737488355328 := by
  intro i hi
  obtain ⟨j, hj, rfl⟩ := List.getElem_of_mem hi
  obtain ⟨T, hims⟩ := h.images
  obtain ⟨o, e, hc⟩ := hims.at_ (by omega)
  obtain ⟨D, a, c, him, _⟩ := hc j hj
  exact him.high
theorem Vp.more {w W W' : World} {b ba bb : Nat} {p : Pg} (h : Vp w W b p ba bb) (ho : Only (fun _ => False) W W') : Vp w W' b p ba bb := by
  obtain ⟨⟨B, ao, cp, h1, h2, h3, h4⟩, h5⟩ := h
  exact ⟨⟨B, ao, cp, h1.more ho, h2.more ho, h3, h4⟩, h5⟩
section
variable {ops : Array Oper} {rest : List Oper} {o : Oper} {a : Act} {w : World} {Q : Exit → Act → World → Prop}
theorem wpList_load_ro (hg : o.guard = none) (x : Operand) (hop : o.op = .load 34 x) (b off : Nat) (hx : a.eval x = .pointer (some ⟨b, off, none⟩)) (r : Rc) (L : Loc) (hc : w.rangeAt b off (r.cl L))
    (h : wpList Tryz.prog ops Q rest (a.put o.dst (.agg (r.cells L))) w) : wpList Tryz.prog ops Q (o :: rest) a w :=
  wpList_load_mid hg 34 x hop b off hx (r.cl L) _ hc Tryz.underlying34 rfl Tryz.sizeRecY h
end
/-- What Do makes of a page in a variable. -/
theorem Vp.does {w W : World} {b ba bb : Nat} {p : Pg} (h : Vp w W b p ba bb) (m : Int) (R : Rc) (L : Loc) (hR : Rk W m R L) (ao : Option Addr) (cp B : Nat) (hS : Strs W B ao p.items) (hF : Fit ao p.items.length cp) :
    Calls Tryz.prog 4 #[.int .i64 m, .agg #[.int .i64 p.lsn, .int .i64 p.kind, .int .i64 p.level, .int .i64 p.right, .string p.high, .slice ao p.items.length cp], .int .i64 7, .agg (R.cells L)] W fun e w' => Res W w' e (doP m p 7 R).1 (doP m p 7 R).2 := do_any W m p.lsn p.kind p.level p.right 7 p.high B cp ao p.items R L ⟨hS, hF, h.pw.len, h.pw.high, hR⟩
theorem RcAt.wl {w : World} {R : Rc} {L : Loc} (h : RcAt w R L) (n : Int) : RcAt w (R.wl n) L := ⟨h.slots, h.more, h.images, h.pages, h.txns, h.f1, h.f2, h.data, h.kind⟩
theorem pair_new (w : World) (p q : Pg) (ao aq : Option Addr) (cp cq Bp Bq : Nat) (hp : Pn w p Bp ao cp) (hq : Pn w q Bq aq cq) :
    Vp w (((w.alloc (.cells #[.int .i64 p.lsn, .int .i64 p.kind, .int .i64 p.level, .int .i64 p.right, .string p.high, .slice ao p.items.length cp, .int .i64 q.lsn, .int .i64 q.kind, .int .i64 q.level, .int .i64 q.right, .string q.high, .slice aq q.items.length cq] 27)).alloc (.cells #[.int .i64 p.lsn, .int .i64 p.kind, .int .i64 p.level, .int .i64 p.right, .string p.high, .slice ao p.items.length cp] 25)).alloc (.cells #[.int .i64 q.lsn, .int .i64 q.kind, .int .i64 q.level, .int .i64 q.right, .string q.high, .slice aq q.items.length cq] 25)) (w.heap.size + 1) p (w.heap.size + 1) (w.heap.size + 1 + 1) ∧ Vp w (((w.alloc (.cells #[.int .i64 p.lsn, .int .i64 p.kind, .int .i64 p.level, .int .i64 p.right, .string p.high, .slice ao p.items.length cp, .int .i64 q.lsn, .int .i64 q.kind, .int .i64 q.level, .int .i64 q.right, .string q.high, .slice aq q.items.length cq] 27)).alloc (.cells #[.int .i64 p.lsn, .int .i64 p.kind, .int .i64 p.level, .int .i64 p.right, .string p.high, .slice ao p.items.length cp] 25)).alloc (.cells #[.int .i64 q.lsn, .int .i64 q.kind, .int .i64 q.level, .int .i64 q.right, .string q.high, .slice aq q.items.length cq] 25)) (w.heap.size + 1 + 1) q (w.heap.size + 1) (w.heap.size + 1 + 1) ∧ Only (fun _ => False) w (((w.alloc (.cells #[.int .i64 p.lsn, .int .i64 p.kind, .int .i64 p.level, .int .i64 p.right, .string p.high, .slice ao p.items.length cp, .int .i64 q.lsn, .int .i64 q.kind, .int .i64 q.level, .int .i64 q.right, .string q.high, .slice aq q.items.length cq] 27)).alloc (.cells #[.int .i64 p.lsn, .int .i64 p.kind, .int .i64 p.level, .int .i64 p.right, .string p.high, .slice ao p.items.length cp] 25)).alloc (.cells #[.int .i64 q.lsn, .int .i64 q.kind, .int .i64 q.level, .int .i64 q.right, .string q.high, .slice aq q.items.length cq] 25)) := by
  have e1 := Pag.new (w.alloc (.cells #[.int .i64 p.lsn, .int .i64 p.kind, .int .i64 p.level, .int .i64 p.right, .string p.high, .slice ao p.items.length cp, .int .i64 q.lsn, .int .i64 q.kind, .int .i64 q.level, .int .i64 q.right, .string q.high, .slice aq q.items.length cq] 27)) (.int .i64 p.lsn) (.int .i64 p.kind) (.int .i64 p.level) (.int .i64 p.right) (.string p.high) (.slice ao p.items.length cp)
  rw [World.size_alloc] at e1
  have e2 := Pag.new ((w.alloc (.cells #[.int .i64 p.lsn, .int .i64 p.kind, .int .i64 p.level, .int .i64 p.right, .string p.high, .slice ao p.items.length cp, .int .i64 q.lsn, .int .i64 q.kind, .int .i64 q.level, .int .i64 q.right, .string q.high, .slice aq q.items.length cq] 27)).alloc (.cells #[.int .i64 p.lsn, .int .i64 p.kind, .int .i64 p.level, .int .i64 p.right, .string p.high, .slice ao p.items.length cp] 25)) (.int .i64 q.lsn) (.int .i64 q.kind) (.int .i64 q.level) (.int .i64 q.right) (.string q.high) (.slice aq q.items.length cq)
  rw [World.size_alloc, World.size_alloc] at e2
  have ho : Only (fun _ => False) w (((w.alloc (.cells #[.int .i64 p.lsn, .int .i64 p.kind, .int .i64 p.level, .int .i64 p.right, .string p.high, .slice ao p.items.length cp, .int .i64 q.lsn, .int .i64 q.kind, .int .i64 q.level, .int .i64 q.right, .string q.high, .slice aq q.items.length cq] 27)).alloc (.cells #[.int .i64 p.lsn, .int .i64 p.kind, .int .i64 p.level, .int .i64 p.right, .string p.high, .slice ao p.items.length cp] 25)).alloc (.cells #[.int .i64 q.lsn, .int .i64 q.kind, .int .i64 q.level, .int .i64 q.right, .string q.high, .slice aq q.items.length cq] 25)) := o2 (o2 (onlyA _ _) (onlyA _ _)) (onlyA _ _)
  exact ⟨⟨⟨Bp, ao, cp, e1.more (onlyA _ _), hp.strs.more ho, hp.fit, fun h0 => by have := hp.strs.lt h0; omega⟩, ⟨hp.len, hp.high⟩⟩, ⟨⟨Bq, aq, cq, e2, hq.strs.more ho, hq.fit, fun h0 => by have := hq.strs.lt h0; omega⟩, ⟨hq.len, hq.high⟩⟩, ho⟩
set_option maxRecDepth 100000 in
set_option maxHeartbeats 1600000 in
theorem row_law (w : World) (m : Int) (p q : Pg) (Bp Bq : Nat) (ao aq : Option Addr) (cp cq Bl cl : Nat) (al : Option Addr) (l : List Lr) (hp : Pn w p Bp ao cp) (hq : Pn w q Bq aq cq) (hl : Ry w Bl al l) (hm : I64 m) :
    Calls Tryz.prog 3 #[.int .i64 m, .slice al l.length cl, .agg #[.int .i64 p.lsn, .int .i64 p.kind, .int .i64 p.level, .int .i64 p.right, .string p.high, .slice ao p.items.length cp, .int .i64 q.lsn, .int .i64 q.kind, .int .i64 q.level, .int .i64 q.right, .string q.high, .slice aq q.items.length cq]] w fun e w' => e = .returned (.bool true) ∧ Only (fun _ => False) w w' := by
  have HX := hide (pair_new w p q ao aq cp cq Bp Bq hp hq)
  have HAW : Hid (∀ W, Only (fun _ => False) w W → Calls Tryz.prog 5 #[] W fun e w' => e = .returned (.bool true) ∧ Only (fun _ => False) w w') := fun W ho => (apawake_any W).mono (fun e w' k => ⟨k.1, o2 ho k.2⟩)
  have HL := hide hl
  have hll := hl.len
  have HZN : Hid (∀ W : World, Rb (W.alloc (.cells #[.int .i64 0, .int .i64 0, .int .i64 0, .int .u8 0, .int .i64 0, .int .i64 0, .int .i64 0, .int .i64 0, .int .i64 0, .int .i64 0, .string ⟨#[]⟩, .slice none 0 0, .slice none 0 0, .slice none 0 0, .slice none 0 0, .slice none 0 0] 34)) W.heap.size noR noL) := fun W => Rb.new W noR noL
  have HAL : Hid (∀ (W : World), Only (fun _ => False) W (W.alloc (.cells #[.int .i64 0, .int .i64 0, .int .i64 0, .int .u8 0, .int .i64 0, .int .i64 0, .int .i64 0, .int .i64 0, .int .i64 0, .int .i64 0, .string ⟨#[]⟩, .slice none 0 0, .slice none 0 0, .slice none 0 0, .slice none 0 0, .slice none 0 0] 34))) := fun W => onlyA W _
  obtain ⟨N, hN⟩ : ∃ R, noR = R := ⟨_, rfl⟩
  obtain ⟨NL, hNL⟩ : ∃ R, noL = R := ⟨_, rfl⟩
  rw [hN, hNL] at HZN
  clear hp hq hl hN hNL
  go_enter Tryz.func3, Tryz.ntmps3
  go_upto_region 4 with fail
  obtain ⟨W0, hW0⟩ : ∃ x, ((w.alloc (.cells #[.int .i64 p.lsn, .int .i64 p.kind, .int .i64 p.level, .int .i64 p.right, .string p.high, .slice ao p.items.length cp, .int .i64 q.lsn, .int .i64 q.kind, .int .i64 q.level, .int .i64 q.right, .string q.high, .slice aq q.items.length cq] 27)).alloc (.cells #[.int .i64 p.lsn, .int .i64 p.kind, .int .i64 p.level, .int .i64 p.right, .string p.high, .slice ao p.items.length cp] 25)).alloc (.cells #[.int .i64 q.lsn, .int .i64 q.kind, .int .i64 q.level, .int .i64 q.right, .string q.high, .slice aq q.items.length cq] 25) = x := ⟨_, rfl⟩
  rw [hW0] at HX ⊢
  clear hW0
  have HBA : Hid (∀ W, Only (fun _ => False) w W → w.heap.size ≤ W.heap.size) := fun W ho => ho.size
  obtain ⟨ba, hba⟩ : ∃ b, w.heap.size + 1 = b := ⟨_, rfl⟩
  rw [hba] at HX ⊢
  obtain ⟨bb, hbb⟩ : ∃ b, ba + 1 = b := ⟨_, rfl⟩
  rw [hbb] at HX ⊢
  have HNB : Hid (w.heap.size < ba ∧ ba < bb) := ⟨by omega, by omega⟩
  have HBB : Hid (ba = w.heap.size + 1 ∧ bb = w.heap.size + 2) := ⟨by omega, by omega⟩
  clear hba hbb
  go_wp2_with fail
  go_loopw [9, 10] (fun mt i wr => ∃ (j : Nat) (A G : Pg) (met : Bool), j ≤ l.length ∧ i = .int .i64 (j : Int) ∧ mt = .bool met ∧ Hid (Vp w wr ba A ba bb) ∧ Hid (Vp w wr bb G ba bb) ∧ Hid (Only (fun _ => False) w wr) ∧ Hid (met = true → A = G)) (fun _ i _ => l.length - (intOf i).toNat)
  case atStart => exact ⟨0, p, q, false, Nat.zero_le _, rfl, rfl, HX.out.1, HX.out.2.1, HX.out.2.2, fun h => by cases h⟩
  case round =>
    clear HX
    obtain ⟨j, A, G, met, hj, rfl, rfl, HA, HG, HO, HMT⟩ := hrel
    by_cases hlt : j < l.length
    · obtain ⟨lo, rfl, hc⟩ := (HL.out.more HO.out).at_ (by omega)
      have rng := hc j hlt
      have hlk : (j : Int) < (l.length : Int) := by omega
      have hea := HL.out.each l[j] (List.getElem_mem hlt)
      obtain ⟨z, hz⟩ : ∃ z, l[j] = z := ⟨_, rfl⟩
      rw [hz] at rng hea
      obtain ⟨R, L⟩ := z
      have HRG : Hid (wr.rangeAt Bl (lo + j * 16) (R.cl L)) := rng
      have HAT : Hid (RcAt w R L) := hea.1
      have HRK : Hid (RkN R) := hea.2
      have HIF : Hid (∀ i ∈ R.images, i.body.items.length ≤ 8796093021952) := hea.2.few
      have HIW := hide (ims_high hea.1)
      clear hc hz rng hea
      go_upto_region 8 with (first
        | (refine wpList_load_ro rfl (.tmp 30) rfl Bl (lo + j * 16) rfl R L HRG.out ?_; go_frame)
        | (refine wpList_put_rc rfl (.tmp 11) (.tmp 31) rfl wr.heap.size rfl N R NL L rfl (HZN.out wr) (fun W2 HS => ?_); go_frame))
      have hnr := HAL.out wr
      have HOS : Hid (Only (fun _ => False) wr W2) := hnr.trans HS.out.2 (fun i hi e => by omega)
      have HR2 := hide HS.out.1
      obtain ⟨b11, hb11⟩ : ∃ b, wr.heap.size = b := ⟨_, rfl⟩
      have HLW : Hid (wr.heap.size = b11) := hb11
      rw [hb11] at HR2 ⊢
      clear HS hnr hb11 HRG
      obtain ⟨n, hn⟩ : ∃ n : Nat, 10 + j = n := ⟨_, rfl⟩
      have hn1 : (10 : Int) + (j : Int) = (n : Int) := by omega
      have hn2 : IntKind.i64.wrap (n : Int) = (n : Int) := wraps_i64 _ (by omega) (by omega)
      have u0 := HR2.out.bx.c0
      have f0 := HR2.out.frozen 0 (by omega)
      have hs0 := Only.setCell (S := fun j => j = b11) W2 ⟨b11, 0, none⟩ (.int .i64 (n : Int)) rfl
      have HR3 := hide (HR2.out.one (q := R.wl (n : Int)) (M := L) 0 (.int .i64 (n : Int)) (by omega) rfl)
      have HO3 : Hid (Only (fun _ => False) wr (W2.setCell ⟨b11, 0, none⟩ (.int .i64 (n : Int)))) := HOS.out.trans hs0 (fun i hi e => by have := HLW.out; omega)
      go_upto_region 9 with fail
      obtain ⟨W3, hW3⟩ : ∃ x, W2.setCell ⟨b11, 0, none⟩ (.int .i64 (n : Int)) = x := ⟨_, rfl⟩
      rw [hW3] at HR3 HO3 ⊢
      clear hW3 hs0 u0 f0 HR2 HOS hn1 hn2 hn
      have HO4 := hide (o2 HO.out HO3.out)
      have HA4 := hide (HA.out.more HO3.out)
      have HG4 := hide (HG.out.more HO3.out)
      have HBL : Hid (ba < b11 ∧ bb < b11 ∧ ba < w.heap.size + 3) := by
        have h1 := HA.out.lt
        have h2 := HG.out.lt
        have h3 := HLW.out
        have h4 := HNB.out
        exact ⟨by omega, by omega, by have := HBB.out; omega⟩
      have HST : Hid (¬ (doP m A 7 (R.wl (n : Int))).2 = 0 ∨ (A = G ∨ (imP 7 R.images).isSome = true → doP m G 7 (R.wl (n : Int)) = doP m A 7 (R.wl (n : Int)))) := .inr (fun h => row_step h)
      have HD : Hid (∀ (W : World) (B cp : Nat) (ao : Option Addr) (X : Pg), Only (fun _ => False) w W → Pw X → Strs W B ao X.items → Fit ao X.items.length cp → Calls Tryz.prog 4 #[.int .i64 m, .agg #[.int .i64 X.lsn, .int .i64 X.kind, .int .i64 X.level, .int .i64 X.right, .string X.high, .slice ao X.items.length cp], .int .i64 7, .agg ((R.wl (n : Int)).cells L)] W fun e w' => Res W w' e (doP m X 7 (R.wl (n : Int))).1 (doP m X 7 (R.wl (n : Int))).2) := fun W B cp ao X ho hw hS hF =>
        do_any W m X.lsn X.kind X.level X.right 7 X.high B cp ao X.items (R.wl (n : Int)) L ⟨hS, hF, hw.len, hw.high, ⟨(HAT.out.go ho).wl _, hm, (show I64 R.xid from ⟨HRK.out.xid.1, by have := HRK.out.xid.2; omega⟩), (show I64 R.new from ⟨HRK.out.new.1, by have := HRK.out.new.2; omega⟩)⟩⟩
      have HPW : Hid (∀ X, Pw X → Pw (doP m X 7 (R.wl (n : Int))).1) := fun X hX => pw_do m hX 7 (R.wl (n : Int)) ⟨fun i hi => ⟨HIF.out i hi, HIW.out i hi⟩⟩
      clear HA HG HO HO3 HLW
      obtain ⟨⟨B1, ao1, cp1, hpg, hst, hft, hne⟩, hpw⟩ := HA4.out
      have HPG := hide hpg
      have HPA := hide (HPW.out A hpw)
      have HD1 := hide (HD.out W3 B1 cp1 ao1 A HO4.out hpw hst hft)
      clear hst hft hne hpw
      obtain ⟨A2, hA2⟩ : ∃ X, (doP m A 7 (R.wl (n : Int))).1 = X := ⟨_, rfl⟩
      obtain ⟨E, hE⟩ : ∃ X, (doP m A 7 (R.wl (n : Int))).2 = X := ⟨_, rfl⟩
      have hDA : doP m A 7 (R.wl (n : Int)) = (A2, E) := by rw [← hA2, ← hE]
      rw [hDA] at HST HD1 HPA
      simp only at HST HD1 HPA
      clear hA2 hE hDA
      obtain ⟨p0, p1, p2, p3, p4, p5, _, _, _, _, _, _, _⟩ := hpg
      go_wp2_with (refine wpList_load_rc rfl (.tmp 11) rfl b11 rfl (R.wl (n : Int)) L HR3.out.range ?_; go_frame)
      refine HD1.out.mono ?_
      rintro e w4 ⟨B2, ao2, cp2, rfl, hS2, hF2, ho4, hB2⟩
      clear p0 p1 p2 p3 p4 p5 HD1
      have HN12 := hide (Pag.new w4 (.int .i64 A2.lsn) (.int .i64 A2.kind) (.int .i64 A2.level) (.int .i64 A2.right) (.string A2.high) (.slice ao2 A2.items.length cp2))
      have HA12 := hide (onlyA w4 (.cells #[.int .i64 A2.lsn, .int .i64 A2.kind, .int .i64 A2.level, .int .i64 A2.right, .string A2.high, .slice ao2 A2.items.length cp2] 25))
      have HS2 := hide hS2
      have HF2 := hide hF2
      have HB2 := hide hB2
      have HW4 := hide ho4
      clear hS2 hF2 ho4 hB2
      go_upto_region 10 with fail
      obtain ⟨W5, hW5⟩ : ∃ x, w4.alloc (.cells #[.int .i64 A2.lsn, .int .i64 A2.kind, .int .i64 A2.level, .int .i64 A2.right, .string A2.high, .slice ao2 A2.items.length cp2] 25) = x := ⟨_, rfl⟩
      rw [hW5] at HN12 HA12 ⊢
      clear hW5
      have HX5 := hide (o2 HW4.out HA12.out)
      have HO5 := hide (o2 HO4.out HX5.out)
      by_cases h0 : E = 0
      · subst h0
        have HST2 : Hid (A = G ∨ (imP 7 R.images).isSome = true → doP m G 7 (R.wl (n : Int)) = (A2, 0)) := by
          rcases HST.out with h | h
          · exact absurd rfl h
          · exact h
        clear HST
        have HP5 := hide (HPG.out.more HX5.out)
        obtain ⟨q0, q1, q2, q3, q4, q5, qf0, qf1, qf2, qf3, qf4, qf5, _⟩ := HP5.out
        obtain ⟨r0, r1, r2, r3, r4, r5, _, _, _, _, _, _, _⟩ := HN12.out
        have HV6 := hide (Pag.six HP5.out (.int .i64 A2.lsn) (.int .i64 A2.kind) (.int .i64 A2.level) (.int .i64 A2.right) (.string A2.high) (.slice ao2 A2.items.length cp2))
        have HS6 := hide (Only.six W5 ba (.int .i64 A2.lsn) (.int .i64 A2.kind) (.int .i64 A2.level) (.int .i64 A2.right) (.string A2.high) (.slice ao2 A2.items.length cp2))
        go_upto_region 13 with fail
        clear q0 q1 q2 q3 q4 q5 qf0 qf1 qf2 qf3 qf4 qf5 r0 r1 r2 r3 r4 r5
        obtain ⟨W6, hW6⟩ : ∃ x, ((((((W5.setCell ⟨ba, 0, none⟩ (.int .i64 A2.lsn)).setCell ⟨ba, 1, none⟩ (.int .i64 A2.kind)).setCell ⟨ba, 2, none⟩ (.int .i64 A2.level)).setCell ⟨ba, 3, none⟩ (.int .i64 A2.right)).setCell ⟨ba, 4, none⟩ (.string A2.high)).setCell ⟨ba, 5, none⟩ (.slice ao2 A2.items.length cp2)) = x := ⟨_, rfl⟩
        rw [hW6] at HV6 HS6 ⊢
        clear hW6
        have HO6 : Hid (Only (fun _ => False) w W6) := HO5.out.trans HS6.out (fun i hi e => by have := HBB.out; omega)
        have HB36 : Hid (W3.heap.size ≤ W5.heap.size ∧ b11 < W3.heap.size ∧ W3.heap.size ≤ w4.heap.size ∧ W5.heap.size ≤ W6.heap.size) := ⟨HX5.out.size, HR3.out.lt, HW4.out.size, HS6.out.size⟩
        have HA6 : Hid (Vp w W6 ba A2 ba bb) := ⟨⟨B2, ao2, cp2, HV6.out, (HS2.out.more HA12.out).kept HS6.out (fun h0 e => by have := HB2.out h0; have := HB36.out; have := HBL.out; omega), HF2.out, fun h0 => by have := HB2.out h0; have := HB36.out; have := HBL.out; exact ⟨by omega, by omega⟩⟩, HPA.out⟩
        have HG6 : Hid (Vp w W6 bb G ba bb) := (HG4.out.more HX5.out).keptP HS6.out (fun e => by have := HNB.out; omega) (fun h => h.1)
        have HR6 := hide ((HR3.out.more HX5.out).kept HS6.out (fun e => by have := HBL.out; omega))
        have HN6 := hide (HN12.out.kept HS6.out (fun e => by have := HB36.out; have := HBL.out; omega))
        have HS12 := hide ((HS2.out.more HA12.out).kept HS6.out (fun h0 e => by have := HB2.out h0; have := HB36.out; have := HBL.out; omega))
        obtain ⟨b12, hb12⟩ : ∃ b, w4.heap.size = b := ⟨_, rfl⟩
        have HBZ : Hid (b11 < b12) := by have := HB36.out; unfold Hid; omega
        rw [hb12] at HN6 ⊢
        clear hb12 HN12 HA12 HV6 HS6 HO5 HP5 HX5 HPG HS2 HB2 HW4 HA4 HG4 HO4 HR3 HB36
        have hil : (R.images.length : Int) < 1759218604441 := by have := HRK.out.ims; omega
        go_wp2_with fail
        have r13 : W6.cell? ⟨b11, 13, none⟩ = some (.slice L.a3 R.images.length L.c3) := HR6.out.bx.c13
        go_loopw [14, 15] (fun bx i wx => ∃ (k : Nat), k ≤ R.images.length ∧ i = .int .i64 (k : Int) ∧ bx = .bool (imP 7 (R.images.take k)).isSome ∧ wx = W6) (fun _ i _ => R.images.length - (intOf i).toNat)
        case atStart => exact ⟨0, Nat.zero_le _, rfl, rfl, rfl⟩
        case round =>
          obtain ⟨k, hk, rfl, rfl, hw⟩ := hrel
          obtain rfl := hw.symm
          clear hw
          by_cases hlt2 : k < R.images.length
          · obtain ⟨T, hims⟩ := (HAT.out.go HO6.out).images
            obtain ⟨zo, hza, hc⟩ := hims.at_ (by omega)
            obtain ⟨D, ia, ic, him, _⟩ := hc k hlt2
            have hlk2 : (k : Int) < (R.images.length : Int) := by omega
            have d0 := him.c0
            have HTK := hide (imP_snoc 7 R.images k hlt2)
            obtain ⟨pg, hpg⟩ : ∃ x, R.images[k].page = x := ⟨_, rfl⟩
            rw [hpg] at d0 HTK
            rw [hza] at r13
            clear hims hza hc him hpg
            obtain ⟨bx, hbx⟩ : ∃ x, (imP 7 (R.images.take k)).isSome = x := ⟨_, rfl⟩
            rw [hbx] at HTK ⊢
            clear hbx
            cases bx with
            | true =>
              go_wp2_with fail
              go_roundw
              case rel => exact ⟨k + 1, by omega, by go_num, by rw [HTK.out]; rfl, trivial⟩
              case measure => simp [intOf]; omega
            | false =>
              go_wp2_with fail
              go_roundw
              case rel => exact ⟨k + 1, by omega, by go_num, by rw [HTK.out]; rfl, trivial⟩
              case measure => simp [intOf]; omega
          · have hlk2 : ¬ (k : Int) < (R.images.length : Int) := by omega
            rw [List.take_of_length_le (show R.images.length ≤ k by omega)]
            obtain ⟨im, him⟩ : ∃ x, (imP 7 R.images).isSome = x := ⟨_, rfl⟩
            rw [him] at HST2 ⊢
            clear him
            go_upto_region 18 with fail
            go_cut [9] (fun t wx => t = .bool (met || im) ∧ wx = W6)
            case first =>
              cases met with
              | true =>
                go_wp2_with fail
                go_meet
                exact ⟨rfl, rfl⟩
              | false =>
                go_wp2_with fail
                go_meet
                exact ⟨rfl, rfl⟩
            case rest =>
              obtain ⟨rfl, hw⟩ := hcut
              obtain rfl := hw.symm
              clear hw
              have HM2 : Hid ((met || im) = true → doP m G 7 (R.wl (n : Int)) = (A2, 0)) := fun h => by
                rcases Bool.or_eq_true_iff.1 h with h | h
                · exact HST2.out (.inl (HMT.out h))
                · exact HST2.out (.inr h)
              obtain ⟨mt, hmt⟩ : ∃ x, (met || im) = x := ⟨_, rfl⟩
              rw [hmt] at HM2 ⊢
              clear hmt HST2 HMT
              obtain ⟨⟨B3, ao3, cp3, hpg, hst, hft, hne⟩, hpw⟩ := HG6.out
              have HPG := hide hpg
              have HPG2 := hide (HPW.out G hpw)
              have HD2 := hide (HD.out W6 B3 cp3 ao3 G HO6.out hpw hst hft)
              clear hst hft hne hpw
              obtain ⟨G2, hG2⟩ : ∃ X, (doP m G 7 (R.wl (n : Int))).1 = X := ⟨_, rfl⟩
              obtain ⟨F, hF⟩ : ∃ X, (doP m G 7 (R.wl (n : Int))).2 = X := ⟨_, rfl⟩
              have hDG : doP m G 7 (R.wl (n : Int)) = (G2, F) := by rw [← hG2, ← hF]
              rw [hDG] at HM2 HD2 HPG2
              simp only at HD2 HPG2
              have HM3 : Hid (mt = true → G2 = A2 ∧ F = 0) := fun h => by
                have := HM2.out h
                injection this with e1 e2
                exact ⟨e1, e2⟩
              clear hG2 hF hDG HM2 r13
              obtain ⟨p0, p1, p2, p3, p4, p5, _, _, _, _, _, _, _⟩ := hpg
              go_wp2_with (refine wpList_load_rc rfl (.tmp 11) rfl b11 rfl (R.wl (n : Int)) L HR6.out.range ?_; go_frame)
              refine HD2.out.mono ?_
              rintro e w7 ⟨B4, ao4, cp4, rfl, hS4, hF4, ho7, hB4⟩
              clear p0 p1 p2 p3 p4 p5 HD2
              have HN16 := hide (Pag.new w7 (.int .i64 G2.lsn) (.int .i64 G2.kind) (.int .i64 G2.level) (.int .i64 G2.right) (.string G2.high) (.slice ao4 G2.items.length cp4))
              have HA16 := hide (onlyA w7 (.cells #[.int .i64 G2.lsn, .int .i64 G2.kind, .int .i64 G2.level, .int .i64 G2.right, .string G2.high, .slice ao4 G2.items.length cp4] 25))
              have HS4 := hide hS4
              have HF4 := hide hF4
              have HB4 := hide hB4
              have HW7 := hide ho7
              clear hS4 hF4 ho7 hB4
              go_upto_region 20 with fail
              obtain ⟨W8, hW8⟩ : ∃ x, w7.alloc (.cells #[.int .i64 G2.lsn, .int .i64 G2.kind, .int .i64 G2.level, .int .i64 G2.right, .string G2.high, .slice ao4 G2.items.length cp4] 25) = x := ⟨_, rfl⟩
              rw [hW8] at HN16 HA16 ⊢
              clear hW8
              have HX8 := hide (o2 HW7.out HA16.out)
              have HS4 := hide (HS4.out.more HA16.out)
              have HN128 := hide (HN6.out.more HX8.out)
              have HS128 := hide (HS12.out.more HX8.out)
              have HLT : Hid (ba < W6.heap.size ∧ bb < W6.heap.size) := ⟨HA6.out.lt, HG6.out.lt⟩
              obtain ⟨b16, hb16⟩ : ∃ b, w7.heap.size = b := ⟨_, rfl⟩
              rw [hb16] at HN16 ⊢
              clear hb16 HW7 HA16
              cases mt with
              | true =>
                obtain ⟨e1, e2⟩ := HM3.out rfl
                subst e1 e2
                clear HM3
                have HSM : Hid (∀ W, Only (fun _ => False) W8 W → Calls Tryz.prog 6 #[.agg #[.int .i64 G2.lsn, .int .i64 G2.kind, .int .i64 G2.level, .int .i64 G2.right, .string G2.high, .slice ao2 G2.items.length cp2], .agg #[.int .i64 G2.lsn, .int .i64 G2.kind, .int .i64 G2.level, .int .i64 G2.right, .string G2.high, .slice ao4 G2.items.length cp4]] W fun e w' => e = .returned (.bool true) ∧ Only (fun _ => False) W w') := fun W ho => by
                  have g := ysame_any W G2.lsn G2.kind G2.level G2.right G2.lsn G2.kind G2.level G2.right G2.high G2.high B2 B4 cp2 cp4 ao2 ao4 G2.items G2.items (HS128.out.more ho) (HS4.out.more ho)
                  rw [decide_eq_true (show _ from ⟨rfl, rfl, rfl, rfl, rfl, rfl⟩)] at g
                  exact g
                obtain ⟨s0, s1, s2, s3, s4, s5, _, _, _, _, _, _, _⟩ := HN128.out
                obtain ⟨r0, r1, r2, r3, r4, r5, _, _, _, _, _, _, _⟩ := HN16.out
                go_wp2_with fail
                refine (HSM.out _ (Only.refl _ _)).mono ?_
                rintro e w8 ⟨rfl, ho8⟩
                have HN16 := hide (HN16.out.more ho8)
                have HS4 := hide (HS4.out.more ho8)
                have HX8 := hide (o2 HX8.out ho8)
                clear ho8 s0 s1 s2 s3 s4 s5 r0 r1 r2 r3 r4 r5 HSM HN128 HS128
                have HP8 := hide (HPG.out.more HX8.out)
                obtain ⟨q0, q1, q2, q3, q4, q5, qf0, qf1, qf2, qf3, qf4, qf5, _⟩ := HP8.out
                obtain ⟨r0, r1, r2, r3, r4, r5, _, _, _, _, _, _, _⟩ := HN16.out
                have HV9 := hide (Pag.six HP8.out (.int .i64 G2.lsn) (.int .i64 G2.kind) (.int .i64 G2.level) (.int .i64 G2.right) (.string G2.high) (.slice ao4 G2.items.length cp4))
                have HS9 := hide (Only.six w8 bb (.int .i64 G2.lsn) (.int .i64 G2.kind) (.int .i64 G2.level) (.int .i64 G2.right) (.string G2.high) (.slice ao4 G2.items.length cp4))
                go_upto_region 6 with fail
                clear q0 q1 q2 q3 q4 q5 qf0 qf1 qf2 qf3 qf4 qf5 r0 r1 r2 r3 r4 r5
                obtain ⟨W9, hW9⟩ : ∃ x, ((((((w8.setCell ⟨bb, 0, none⟩ (.int .i64 G2.lsn)).setCell ⟨bb, 1, none⟩ (.int .i64 G2.kind)).setCell ⟨bb, 2, none⟩ (.int .i64 G2.level)).setCell ⟨bb, 3, none⟩ (.int .i64 G2.right)).setCell ⟨bb, 4, none⟩ (.string G2.high)).setCell ⟨bb, 5, none⟩ (.slice ao4 G2.items.length cp4)) = x := ⟨_, rfl⟩
                rw [hW9] at HV9 HS9 ⊢
                clear hW9
                have HO9 : Hid (Only (fun _ => False) w W9) := (o2 HO6.out HX8.out).trans HS9.out (fun i hi e => by have := HBB.out; omega)
                have HA9 : Hid (Vp w W9 ba G2 ba bb) := (HA6.out.more HX8.out).keptP HS9.out (fun e => by have := HNB.out; omega) (fun h => h.2)
                have HG9 : Hid (Vp w W9 bb G2 ba bb) := ⟨⟨B4, ao4, cp4, HV9.out, HS4.out.kept HS9.out (fun h0 e => by have := HB4.out h0; have := HLT.out; omega), HF4.out, fun h0 => by have := HB4.out h0; have := HLT.out; exact ⟨by omega, by omega⟩⟩, HPG2.out⟩
                go_wp2_with fail
                go_roundw
                case rel => exact ⟨j + 1, G2, G2, true, by omega, by go_num, rfl, HA9, HG9, HO9, fun _ => rfl⟩
                case measure => simp [intOf]; omega
              | false =>
                clear HM3
                by_cases h00 : F = 0
                · subst h00
                  have HP8 := hide (HPG.out.more HX8.out)
                  obtain ⟨q0, q1, q2, q3, q4, q5, qf0, qf1, qf2, qf3, qf4, qf5, _⟩ := HP8.out
                  obtain ⟨r0, r1, r2, r3, r4, r5, _, _, _, _, _, _, _⟩ := HN16.out
                  have HV9 := hide (Pag.six HP8.out (.int .i64 G2.lsn) (.int .i64 G2.kind) (.int .i64 G2.level) (.int .i64 G2.right) (.string G2.high) (.slice ao4 G2.items.length cp4))
                  have HS9 := hide (Only.six W8 bb (.int .i64 G2.lsn) (.int .i64 G2.kind) (.int .i64 G2.level) (.int .i64 G2.right) (.string G2.high) (.slice ao4 G2.items.length cp4))
                  go_upto_region 6 with fail
                  clear q0 q1 q2 q3 q4 q5 qf0 qf1 qf2 qf3 qf4 qf5 r0 r1 r2 r3 r4 r5
                  obtain ⟨W9, hW9⟩ : ∃ x, ((((((W8.setCell ⟨bb, 0, none⟩ (.int .i64 G2.lsn)).setCell ⟨bb, 1, none⟩ (.int .i64 G2.kind)).setCell ⟨bb, 2, none⟩ (.int .i64 G2.level)).setCell ⟨bb, 3, none⟩ (.int .i64 G2.right)).setCell ⟨bb, 4, none⟩ (.string G2.high)).setCell ⟨bb, 5, none⟩ (.slice ao4 G2.items.length cp4)) = x := ⟨_, rfl⟩
                  rw [hW9] at HV9 HS9 ⊢
                  clear hW9
                  have HO9 : Hid (Only (fun _ => False) w W9) := (o2 HO6.out HX8.out).trans HS9.out (fun i hi e => by have := HBB.out; omega)
                  have HA9 : Hid (Vp w W9 ba A2 ba bb) := (HA6.out.more HX8.out).keptP HS9.out (fun e => by have := HNB.out; omega) (fun h => h.2)
                  have HG9 : Hid (Vp w W9 bb G2 ba bb) := ⟨⟨B4, ao4, cp4, HV9.out, HS4.out.kept HS9.out (fun h0 e => by have := HB4.out h0; have := HLT.out; omega), HF4.out, fun h0 => by have := HB4.out h0; have := HLT.out; exact ⟨by omega, by omega⟩⟩, HPG2.out⟩
                  go_wp2_with fail
                  go_roundw
                  case rel => exact ⟨j + 1, A2, G2, false, by omega, by go_num, rfl, HA9, HG9, HO9, fun h => by cases h⟩
                  case measure => simp [intOf]; omega
                · have h01 : (F == 0) = false := by simpa using h00
                  have HO8 := hide (o2 HO6.out HX8.out)
                  have HA8 := hide (HA6.out.more HX8.out)
                  have HG8 := hide (HG6.out.more HX8.out)
                  go_wp2_with fail
                  go_roundw
                  case rel => exact ⟨j + 1, A2, G, false, by omega, by go_num, rfl, HA8, HG8, HO8, fun h => by cases h⟩
                  case measure => simp [intOf]; omega
      · have h0' : (E != 0) = true := by simpa using h0
        clear HST
        go_wp2_with fail
        refine (HAW.out _ HO5.out).mono ?_
        rintro e w6 ⟨rfl, ho6⟩
        go_wp2_with fail
        go_ret
        exact ⟨rfl, ho6⟩
    · have hlk : ¬ (j : Int) < (l.length : Int) := by omega
      go_wp2_with fail
      refine (HAW.out _ HO.out).mono ?_
      rintro e w6 ⟨rfl, ho6⟩
      go_wp2_with fail
      go_ret
      exact ⟨rfl, ho6⟩
end Go.Proofs.YtphofhicehncgaaGreat
