/- Parts. -/
import Derived.Test.YtpnbhddmdfcjdaaGreatK18
import Derived.Deep.DeepCutAuto
import Derived.Maps.AppendAt
import Derived.Carry
import Derived.Test.YtpnbhddmdfcjdaaGreatK19
import Derived.Test.YtpnbhddmdfcjdaaGreatK17
set_option maxRecDepth 100000
namespace Go.Proofs.YtpnbhddmdfcjdaaGreat
open Go.RowKit
theorem gap_step {m x y : Int} (hx : Idd m x) (hy : Idd m y) (h : ¬ x = y) : xgap m (xadd m x 1) y = xgap m x y - 1 ∧ 1 ≤ xgap m x y := by
  have h1 := xadd_id (n := 1) hx
  have hm := hx.1.1
  have b1 := hx.2
  have b2 := hy.2
  rw [ring_gap h1 hy, ring_gap hx hy, ring_on hx (by omega) (by omega)]
  split <;> split <;> split <;> omega
theorem gap_zero {m x y : Int} (hx : Idd m x) (hy : Idd m y) (h : x = y) : xgap m x y = 0 := by
  have b1 := hx.2
  have b2 := hy.2
  rw [ring_gap hx hy]
  split <;> omega
/-- The loop of Cut: at x, n more to go, so that what is there becomes F. -/
structure CutS (m y : Int) (F : List UInt8) (len : Nat) (g : Nat) (w0 wr : World) (x : Int) (l : List UInt8) : Prop where
  id : Idd m x
  by_ : Byt wr g l
  only : Only (fun k => k = g) w0 wr
  len : l.length = len
  clr : clr m (xgap m x y).toNat x l = F
theorem CutS.last {m y : Int} {F : List UInt8} {len g : Nat} {w0 wr : World} {x : Int} {l : List UInt8} (h : CutS m y F len g w0 wr x l) (hy : Idd m y) (e : x = y) : l = F := by
  have := h.clr
  rw [gap_zero h.id hy e] at this
  exact this
theorem CutS.next {m y : Int} {F : List UInt8} {len g : Nat} {w0 wr w1 : World} {x : Int} {l : List UInt8} (h : CutS m y F len g w0 wr x l) (hy : Idd m y) (e : ¬ x = y) (hb : Byt w1 g (stSet l (x - 1).toNat 0)) (ho : Only (fun k => k = g) wr w1) :
    CutS m y F len g w0 w1 (xadd m x 1) (stSet l (x - 1).toNat 0) := by
  obtain ⟨e1, e2⟩ := gap_step h.id hy e
  refine ⟨xadd_id h.id, hb, h.only.trans ho (fun _ _ q => q), by rw [stSet_len]; exact h.len, ?_⟩
  have hc := h.clr
  rw [show (xgap m x y).toNat = (xgap m (xadd m x 1) y).toNat + 1 by omega, _root_.Go.Proofs.YtpnbhddmdfcjdaaGreat.clr] at hc
  exact hc
/-- Behind Cut's last but one statement. -/
structure CutA (w wc : World) (a : Int) (g2 : Nat) (S T : ByteArray) : Prop where
  one : Pag wc w.heap.size (.int .i64 a) (.int .i64 1) (.int .i64 0) (.int .i64 0) (.string ⟨#[]⟩) (.slice (some ⟨g2, 0, none⟩) 2 2)
  two : Pag wc (w.heap.size + 1) (.int .i64 0) (.int .i64 0) (.int .i64 0) (.int .i64 0) (.string ⟨#[]⟩) (.slice none 0 0)
  strs : Strs wc g2 (some ⟨g2, 0, none⟩) [S, T]
  only : Only (fun _ => False) w wc
  new : w.heap.size + 1 < g2
theorem CutA.of {w w9 : World} {a : Int} {v : Value} {S T : ByteArray} (h1 : Pag w9 w.heap.size (.int .i64 a) (.int .i64 1) (.int .i64 0) (.int .i64 0) (.string ⟨#[]⟩) v)
    (h2 : Pag w9 (w.heap.size + 1) (.int .i64 0) (.int .i64 0) (.int .i64 0) (.int .i64 0) (.string ⟨#[]⟩) (.slice none 0 0)) (ho : Only (fun _ => False) w w9) (hs : S.size ≤ 140737488355328) (ht : T.size ≤ 140737488355328) :
    CutA w ((w9.setCell ⟨w.heap.size, 5, none⟩ (.slice (some ⟨w9.heap.size, 0, none⟩) 2 2)).alloc (.cells #[.string S, .string T] 9)) a w9.heap.size S T := by
  have ho1 : Only (fun k => k = w.heap.size) w9 (w9.setCell ⟨w.heap.size, 5, none⟩ (.slice (some ⟨w9.heap.size, 0, none⟩) 2 2)) := Only.setCell w9 ⟨w.heap.size, 5, none⟩ _ rfl
  have hsz : (w9.setCell ⟨w.heap.size, 5, none⟩ (.slice (some ⟨w9.heap.size, 0, none⟩) 2 2)).heap.size = w9.heap.size := by simp
  have hS := Strs.two (w9.setCell ⟨w.heap.size, 5, none⟩ (.slice (some ⟨w9.heap.size, 0, none⟩) 2 2)) S T hs ht
  rw [hsz] at hS
  exact ⟨(h1.set5 _).more (onlyA _ _), (h2.kept ho1 (by omega)).more (onlyA _ _), hS, o2 (ho.trans ho1 (fun i hi e => by omega)) (onlyA _ _), h2.lt⟩
/-- What Cut answers. -/
noncomputable def cutR (m : Int) (p : Pg) (y : Int) : Pg := if cid m p y = 0 then cutP m p y else .none
set_option maxRecDepth 100000 in
set_option maxHeartbeats 800000 in
theorem ccut_err (w : World) (m a k v r x : Int) (h : ByteArray) (cp B : Nat) (ao : Option Addr) (l : List ByteArray) (hm : I64 m) (hx : I64 x) (hS : Strs w B ao l) (hc : ¬ cid m ⟨a, k, v, r, h, l⟩ x = 0) :
    Calls Tryz.prog 80 #[.int .i64 m, .agg #[.int .i64 a, .int .i64 k, .int .i64 v, .int .i64 r, .string h, .slice ao l.length cp], .int .i64 x] w fun e w' => Res w w' e .none (cid m ⟨a, k, v, r, h, l⟩ x) := by
  have HC := hide (fun W (ho : Only (fun _ => False) w W) => checkWithID_any W m a k v r x h cp B ao l hm hx (hS.more ho))
  have HO := hide (boxes_only w a k v r h (.slice ao l.length cp))
  have HP := hide (boxes_two w a k v r h (.slice ao l.length cp))
  unfold boxes at HO HP
  have hcb := cid_bd m ⟨a, k, v, r, h, l⟩ x
  obtain ⟨C, hC⟩ : ∃ C, cid m ⟨a, k, v, r, h, l⟩ x = C := ⟨_, rfl⟩
  rw [hC] at hcb hc
  simp only [hC] at HC
  rw [hC]
  have hx1 := hx.1
  have hx2 := hx.2
  have hne : (C != 0) = true := by simp [hc]
  clear hC hm hx hS hc
  go_enter Tryz.func80, Tryz.ntmps80
  go_wp2_with fail
  refine (HC.out _ HO.out).mono ?_
  rintro e w1 ⟨rfl, ho⟩
  have HO1 := hide (o2 HO.out ho)
  have HP1 := hide (HP.out.more ho)
  obtain ⟨q0, q1, q2, q3, q4, q5, t0, t1, t2, t3, t4, t5, tl⟩ := HP.out.more ho
  clear ho
  go_wp2_with fail
  refine bodyPost_ret (results_page rfl rfl (Pag.six HP1.out _ _ _ _ _ _)) rfl ?_
  exact res_none (by omega) HO1.out C _ _ _ _ _ _
set_option maxRecDepth 100000 in
set_option maxHeartbeats 1600000 in
theorem ccut_ok (w : World) (m a y : Int) (cp B : Nat) (ao : Option Addr) (s0 s1 : ByteArray) (hS : Strs w B ao [s0, s1]) (hO : OkP m ⟨a, 1, 0, 0, ⟨#[]⟩, [s0, s1]⟩) (hI : Idd m y) :
    Calls Tryz.prog 80 #[.int .i64 m, .agg #[.int .i64 a, .int .i64 1, .int .i64 0, .int .i64 0, .string ⟨#[]⟩, .slice ao 2 cp], .int .i64 y] w fun e w' => Res w w' e ⟨a, 1, 0, 0, ⟨#[]⟩, [str (sev y.toNat), str (clr m (xgap m (lim m s0) y).toNat (lim m s0) (bl s1))]⟩ 0 := by
  have hm : I64 m := ⟨by have := hI.1.1; omega, by have := hI.1.2.1; omega⟩
  have hx : I64 y := ⟨by have := hI.2; omega, by have := hI.2; have := hI.1.2.1; omega⟩
  have HC := hide (fun W (ho : Only (fun _ => False) w W) => checkWithID_any W m a 1 0 0 y ⟨#[]⟩ cp B ao [s0, s1] hm hx (hS.more ho))
  simp only [cid_ok hI hO] at HC
  have HO := hide (boxes_only w a 1 0 0 ⟨#[]⟩ (.slice ao 2 cp))
  have HP := hide (boxes_two w a 1 0 0 ⟨#[]⟩ (.slice ao 2 cp))
  have HQ := hide (boxes_one w a 1 0 0 ⟨#[]⟩ (.slice ao 2 cp))
  unfold boxes at HO HP HQ
  have hnb := nb_bd hI.1
  have hsz : s1.size = nb m := hO.size
  have hf : Idd m (lim m s0) := hO.idd hI.1
  have HLM := hide (fun W => readLimit_any m s0 W (by have := hI.1.1; omega))
  have HLL := hide (fun W => laidLimit_any y W (by have := hI.2; omega) (by have := hI.2; have := hI.1.2.1; omega))
  have HADD := hide (fun W x (h : Idd m x) => add_any m x 1 W hm ⟨by have := h.2; omega, by have := h.2; have := h.1.2.1; omega⟩ ⟨by omega, by omega⟩)
  have HLAY := hide (fun (W : World) (g cap : Nat) (x : Int) (l : List UInt8) (hB : Byt W g l) (hx : Idd m x) (hl : l.length = s1.size) => clay_any W g cap l x 0 hB hx.2.1 (by have := hx.2; have := hx.1.2.1; omega) (by have := hx.2; omega) (by omega))
  have hse : (str (sev y.toNat)).size ≤ 140737488355328 := by
    have : (sev y.toNat).length ≤ 10 := sevF_len 9 _
    rw [str_size]; omega
  obtain ⟨S, hSS⟩ : ∃ S, str (sev y.toNat) = S := ⟨_, rfl⟩
  rw [hSS] at hse
  simp only [hSS] at HLL
  rw [hSS]
  have HSE := hide hse
  obtain ⟨f, hff⟩ : ∃ f, lim m s0 = f := ⟨_, rfl⟩
  rw [hff] at hf
  simp only [hff] at HLM
  rw [hff]
  obtain ⟨F, hF⟩ : ∃ F, clr m (xgap m f y).toNat f (bl s1) = F := ⟨_, rfl⟩
  have HFL : Hid (F.length = s1.size) := by unfold Hid; rw [← hF, clr_len, bl_len]
  have HTE : Hid ((str F).size ≤ 140737488355328) := by unfold Hid; rw [str_size, HFL.out]; omega
  rw [hF]
  obtain ⟨T, hT⟩ : ∃ T, str F = T := ⟨_, rfl⟩
  rw [hT] at HTE ⊢
  have HT := hide hT
  have HF := hide hF
  have HFI := hide hf
  have HI := hide hI
  have hf1 := hf.2.1
  have hf2 := hf.2.2
  have hm2 := hI.1.2.1
  obtain ⟨o, rfl, hc⟩ := hS.at_ (by simp)
  have hB := hS.lt (by simp)
  have hc0 := hc 0 (by simp)
  have hc1 := hc 1 (by simp)
  simp only [List.getElem_cons_zero, List.getElem_cons_succ, Nat.add_zero] at hc0 hc1
  have HC0 := hide hc0
  have HC1 := hide hc1
  have hx1 := hx.1
  have hx2 := hx.2
  clear hc hc0 hc1 hS hO hI hm hx hT hF hnb hsz hf hse hff hSS
  simp only [List.length_cons, List.length_nil, Nat.zero_add, Nat.reduceAdd] at HC
  go_enter Tryz.func80, Tryz.ntmps80
  go_wp2_with fail
  refine (HC.out _ HO.out).mono ?_
  rintro e w1 ⟨rfl, ho⟩
  have HO1 := hide (o2 HO.out ho)
  have HP1 := hide (HP.out.more ho)
  have HQ1 := hide (HQ.out.more ho)
  have c5 := HQ1.out.c5
  have d1 := (HO1.out.cell (p := ⟨B, o + 1, none⟩) hB (fun h => h)).trans HC1.out
  clear ho
  obtain ⟨w2, cap, hcv, hby, ho2⟩ := bytes_made w1 s1
  obtain ⟨g, hg⟩ : ∃ g, w1.heap.size = g := ⟨_, rfl⟩
  rw [hg] at hcv hby
  have HBY := hide hby
  have HG : Hid (w.heap.size + 1 < g) := by unfold Hid; have := HP1.out.lt; omega
  have HO2 := hide (o2 HO1.out ho2)
  have HP2 := hide (HP1.out.more ho2)
  have HQ2 := hide (HQ1.out.more ho2)
  clear hby hg ho2
  go_upto_region 5 with fail
  clear c5 d1 hcv
  have c5 := HQ2.out.c5
  have d0 := (HO2.out.cell (p := ⟨B, o, none⟩) hB (fun h => h)).trans HC0.out
  go_wp2_with fail
  refine (HLM.out _).mono ?_
  rintro e w3 ⟨rfl, ho3⟩
  have HBY3 := hide (HBY.out.kept ho3 (fun h => h))
  have HO3 := hide (o2 HO2.out ho3)
  have HP3 := hide (HP2.out.more ho3)
  have HQ3 := hide (HQ2.out.more ho3)
  clear ho3 c5 d0
  go_wp2_with fail
  go_loopw [10] (fun t wr => ∃ (x : Int) (l : List UInt8), t = .int .i64 x ∧ 1 ≤ x ∧ x ≤ m ∧ Hid (CutS m y F s1.size g w3 wr x l)) (fun t _ => (xgap m (intOf t) y).toNat)
  case atStart => exact ⟨f, bl s1, rfl, hf1, hf2, HFI.out, HBY3.out, Only.refl _ _, bl_len _, HF.out⟩
  case round =>
    obtain ⟨x, l, rfl, hx1, hx2, HS⟩ := hrel
    by_cases hxy : x = y
    · have hl : l = F := HS.out.last HI.out hxy
      have HON := hide HS.out.only
      have HBF : Hid (Byt wr g F) := by have := HS.out.by_; rw [hl] at this; exact this
      clear HS hl
      have HO4 : Hid (Only (fun _ => False) w wr) := HO3.out.trans HON.out (fun i hi e => by have := HG.out; omega)
      have HP4 : Hid (Pag wr (w.heap.size + 1) (.int .i64 0) (.int .i64 0) (.int .i64 0) (.int .i64 0) (.string ⟨#[]⟩) (.slice none 0 0)) := HP3.out.kept HON.out (by have := HG.out; omega)
      have HQ4 : Hid (Pag wr w.heap.size (.int .i64 a) (.int .i64 1) (.int .i64 0) (.int .i64 0) (.string ⟨#[]⟩) (.slice (some ⟨B, o, none⟩) 2 cp)) := HQ3.out.kept HON.out (by have := HG.out; omega)
      have HCV : Hid (∀ W, Only (fun _ => False) wr W → (convert 100 9 (.slice (some ⟨g, 0, none⟩) s1.size cap)).run Tryz.prog W = .ok (.string T) W) := by
        intro W ho
        have := (HBF.out.kept ho (fun h => h)).back (cp := cap)
        rw [HFL.out, HT.out] at this
        exact this
      have HK : Hid (∀ W, Only (fun _ => False) wr W → Calls Tryz.prog 42 #[.int .i64 y] W fun e w' => e = .returned (.string S) ∧ (convert 100 9 (.slice (some ⟨g, 0, none⟩) s1.size cap)).run Tryz.prog w' = .ok (.string T) w' ∧ w'.cell? ⟨w.heap.size, 5, none⟩ = some (.slice (some ⟨B, o, none⟩) 2 cp) ∧ w'.frozen? ⟨w.heap.size, 5, none⟩ = false ∧ w.heap.size < w'.heap.size ∧ Hid (Only (fun _ => False) wr w')) := by
        intro W ho
        refine (HLL.out W).mono ?_
        rintro e w' ⟨rfl, ho'⟩
        have hq := HQ4.out.more (o2 ho ho')
        exact ⟨rfl, HCV.out _ (o2 ho ho'), hq.c5, hq.f5, hq.lt, o2 ho ho'⟩
      subst hxy
      have hcv0 := HCV.out _ (Only.drew _ wr)
      have e5 := HQ4.out.c5
      have f5 := HQ4.out.f5
      go_upto_region 9 with fail
      go_cut [43] (fun t wc => ∃ g2, t = .slice (some ⟨g2, 0, none⟩) 2 2 ∧ Hid (CutA w wc a g2 S T))
      case first =>
        go_region_with (
          go_at_call 42
          refine (HK.out _ (Only.drew _ _)).mono ?_
          rintro e w9 ⟨rfl, hcv9, p5, g5, hlt9, HX9⟩)
        all_goals (go_wp2_with fail; go_meet; exact ⟨_, rfl, CutA.of (HQ4.out.more HX9.out) (HP4.out.more HX9.out) (o2 HO4.out HX9.out) HSE.out HTE.out⟩)
      case rest =>
        obtain ⟨g2, rfl, HA⟩ := hcut
        obtain ⟨p0, p1, p2, p3, p4, p5, g0, g1, g2', g3, g4, g5, gl⟩ := HA.out.one
        obtain ⟨q0, q1, q2, q3, q4, q5, t0, t1, t2, t3, t4, t5, tl⟩ := HA.out.two
        go_wp2_with fail
        refine bodyPost_ret (results_page rfl rfl (Pag.six HA.out.two _ _ _ _ _ _)) rfl ?_
        exact res_end (cp := 2) (by omega) ⟨a, 1, 0, 0, ⟨#[]⟩, [S, T]⟩ HA.out.strs ⟨(fun h => by cases h), Nat.le_refl _, (by unfold maxLen; omega)⟩ HA.out.only (fun _ => HA.out.new) 0 _ _ _ _ _ _
    · have q := HLAY.out wr g cap x l HS.out.by_ HS.out.id HS.out.len
      rw [HS.out.len] at q
      have HAD := hide (fun W => HADD.out W x HS.out.id)
      have HSTEP := hide (gap_step HS.out.id HI.out hxy)
      have HNX := hide (fun w5 hb ho => HS.out.next (w1 := w5) HI.out hxy hb ho)
      have hid := (xadd_id (n := 1) HS.out.id).2
      obtain ⟨x', hx'⟩ : ∃ x', xadd m x 1 = x' := ⟨_, rfl⟩
      simp only [hx'] at HAD HNX HSTEP hid
      clear hx' HS
      go_wp2_with fail
      refine q.mono ?_
      clear q
      rintro e w5 ⟨rfl, hb5, ho5⟩
      have HN := hide (HNX.out w5 hb5 ho5)
      clear hb5 ho5
      go_wp2_with fail
      refine (HAD.out _).mono ?_
      rintro e w6 ⟨rfl, hw⟩
      obtain rfl := hw.symm
      clear hw
      go_wp2_with fail
      go_roundw
      case rel => exact ⟨x', _, rfl, hid.1, hid.2, HN⟩
      case measure =>
        have := HSTEP.out
        simp only [intOf]
        omega
theorem ccut_any (w : World) (m a k v r x : Int) (h : ByteArray) (cp B : Nat) (ao : Option Addr) (l : List ByteArray) (hm : I64 m) (hx : I64 x) (hS : Strs w B ao l) :
    Calls Tryz.prog 80 #[.int .i64 m, .agg #[.int .i64 a, .int .i64 k, .int .i64 v, .int .i64 r, .string h, .slice ao l.length cp], .int .i64 x] w fun e w' => Res w w' e (cutR m ⟨a, k, v, r, h, l⟩ x) (cid m ⟨a, k, v, r, h, l⟩ x) := by
  by_cases hc : cid m ⟨a, k, v, r, h, l⟩ x = 0
  · obtain ⟨hI, hO⟩ := cid_zero hc
    unfold cutR
    rw [if_pos hc, hc]
    clear hc
    have h1 := hO.kind
    have h2 := hO.level
    have h3 := hO.right
    have h4' := hO.high
    simp only at h1 h2 h3 h4'
    subst h1 h2 h3 h4'
    obtain ⟨s0, s1, rfl⟩ := two_of hO.two
    exact ccut_ok w m a x cp B ao s0 s1 hS hO hI
  · unfold cutR
    rw [if_neg hc]
    exact ccut_err w m a k v r x h cp B ao l hm hx hS hc
/-- A page in the variable's block b, its items in block B. -/
structure PgB (W : World) (b : Nat) (p : Pg) (B : Nat) (ao : Option Addr) (cp : Nat) : Prop where
  pag : Pag W b (.int .i64 p.lsn) (.int .i64 p.kind) (.int .i64 p.level) (.int .i64 p.right) (.string p.high) (.slice ao p.items.length cp)
  strs : Strs W B ao p.items
  fit : Fit ao p.items.length cp
theorem PgB.kept {S : Nat → Prop} {W W' : World} {b B cp : Nat} {p : Pg} {ao : Option Addr} (h : PgB W b p B ao cp) (ho : Only S W W') (hb : ¬ S b) (hB : 0 < p.items.length → ¬ S B) : PgB W' b p B ao cp :=
  ⟨h.pag.kept ho hb, h.strs.kept ho hB, h.fit⟩
theorem PgB.more {W W' : World} {b B cp : Nat} {p : Pg} {ao : Option Addr} (h : PgB W b p B ao cp) (ho : Only (fun _ => False) W W') : PgB W' b p B ao cp := h.kept ho (fun h => h) (fun _ h => h)
theorem PgB.new {w : World} {p : Pg} {B cp : Nat} {ao : Option Addr} (hS : Strs w B ao p.items) (hF : Fit ao p.items.length cp) :
    PgB (w.alloc (.cells #[.int .i64 p.lsn, .int .i64 p.kind, .int .i64 p.level, .int .i64 p.right, .string p.high, .slice ao p.items.length cp] 30)) w.heap.size p B ao cp :=
  ⟨Pag.new w _ _ _ _ _ _, hS.more (onlyA _ _), hF⟩
theorem PgB.put {w : World} {b : Nat} {v0 v1 v2 v3 v4 v5 : Value} (h : Pag w b v0 v1 v2 v3 v4 v5) {p : Pg} {B cp : Nat} {ao : Option Addr} (hS : Strs w B ao p.items) (hF : Fit ao p.items.length cp) (hB : 0 < p.items.length → B ≠ b) :
    PgB ((((((w.setCell ⟨b, 0, none⟩ (.int .i64 p.lsn)).setCell ⟨b, 1, none⟩ (.int .i64 p.kind)).setCell ⟨b, 2, none⟩ (.int .i64 p.level)).setCell ⟨b, 3, none⟩ (.int .i64 p.right)).setCell ⟨b, 4, none⟩ (.string p.high)).setCell ⟨b, 5, none⟩ (.slice ao p.items.length cp)) b p B ao cp :=
  ⟨h.six _ _ _ _ _ _, hS.kept (Only.six w b _ _ _ _ _ _) hB, hF⟩
/-- Numbers that a slice leads to, in block B. -/
structure Nz (w : World) (B : Nat) (ao : Option Addr) (l : List Int) : Prop where
  at_ : 0 < l.length → ∃ o, ao = some ⟨B, o, none⟩ ∧ ∀ j (h : j < l.length), w.cell? ⟨B, o + j, none⟩ = some (.int .i64 l[j])
  wf : ∀ x ∈ l, I64 x
  lt : 0 < l.length → B < w.heap.size
  len : l.length < 9223372036854775808
theorem Nz.nil (w : World) (B : Nat) (ao : Option Addr) : Nz w B ao [] := ⟨fun h => absurd h (by simp), fun _ h => by (cases h), fun h => absurd h (by simp), by simp⟩
theorem Nz.kept {S : Nat → Prop} {w w' : World} {B : Nat} {ao : Option Addr} {l : List Int} (h : Nz w B ao l) (ho : Only S w w') (hS : 0 < l.length → ¬ S B) : Nz w' B ao l :=
  ⟨fun h0 => by
    obtain ⟨o, e, hc⟩ := h.at_ h0
    exact ⟨o, e, fun j hj => (ho.cell (p := ⟨B, o + j, none⟩) (h.lt h0) (hS h0)).trans (hc j hj)⟩, h.wf, fun h0 => Nat.lt_of_lt_of_le (h.lt h0) ho.size, h.len⟩
theorem Nz.more {w w' : World} {B : Nat} {ao : Option Addr} {l : List Int} (h : Nz w B ao l) (ho : Only (fun _ => False) w w') : Nz w' B ao l := h.kept ho (fun _ h => h)
theorem Nz.one (w : World) (a : Int) (ha : I64 a) : Nz (w.alloc (.cells #[.int .i64 a] 3)) w.heap.size (some ⟨w.heap.size, 0, none⟩) [a] :=
  ⟨fun _ => ⟨0, rfl, fun j hj => by
    match j, hj with
    | 0, _ => simp⟩, fun x hx => by simp at hx; subst hx; exact ha, fun _ => by simp, by simp⟩
theorem snot_mem_take {l : List Int} {x : Int} {j : Nat} (h : ∀ k (hk : k < l.length), k < j → l[k] ≠ x) (hj : l.length ≤ j) : x ∉ l := by
  intro hm
  obtain ⟨k, hk, e⟩ := List.getElem_of_mem hm
  exact h k hk (by omega) e
set_option maxRecDepth 100000 in
set_option maxHeartbeats 800000 in
theorem nin_any (w : World) (B cp : Nat) (ao : Option Addr) (l : List Int) (x : Int) (h : Nz w B ao l) :
    Calls Tryz.prog 110 #[.slice ao l.length cp, .int .i64 x] w fun e w' => e = .returned (.bool (decide (x ∈ l))) ∧ w' = w := by
  have hlen := h.len
  have HS := hide h
  clear h
  go_enter Tryz.func110, Tryz.ntmps110
  go_wp2_with fail
  go_loop [5] (fun y => ∃ j : Nat, j ≤ l.length ∧ y = .int .i64 (j : Int) ∧ Hid (∀ k (hk : k < l.length), k < j → l[k] ≠ x)) (fun y => l.length - (intOf y).toNat)
  case atStart => exact ⟨0, by omega, rfl, (fun k _ hk => by omega)⟩
  case round =>
    obtain ⟨j, hj, rfl, HQ⟩ := hrel
    by_cases hlt : j < l.length
    · obtain ⟨o, e1, c1⟩ := HS.out.at_ (by omega)
      have k1 := c1 j hlt
      obtain ⟨z, hz⟩ : ∃ z, l[j] = z := ⟨_, rfl⟩
      have HZ := hide hz
      rw [hz] at k1
      clear c1 hz
      subst e1
      by_cases he : z = x
      · have hm : x ∈ l := by rw [← he, ← HZ.out]; exact List.getElem_mem hlt
        have HM := hide hm
        clear hm
        subst he
        go_wp2_with fail
        go_ret
        exact ⟨ret_bool (decide_eq_true HM.out).symm, rfl⟩
      · have hb : (z == x) = false := by simp [he]
        go_wp2_with fail
        go_round
        case rel =>
          refine ⟨j + 1, by omega, by go_num, ?_⟩
          intro k hk hkj
          by_cases ek : k = j
          · subst ek; rw [HZ.out]; exact he
          · exact HQ.out k hk (by omega)
        case measure => simp [intOf]; omega
    · have HM := hide (snot_mem_take HQ.out (by omega))
      go_wp2_with fail
      go_ret
      exact ⟨ret_bool (decide_eq_false HM.out).symm, rfl⟩
/-- A number was returned: not below 0 just if P. -/
structure RJs (e : Ending) (P : Prop) : Prop where
  ex : ∃ c : Int, e = .returned (.int .i64 c) ∧ (0 ≤ c ↔ P)
set_option maxRecDepth 100000 in
set_option maxHeartbeats 800000 in
theorem sindex_any (w : World) (B cp : Nat) (ao : Option Addr) (l : List Int) (x : Int) (h : Nz w B ao l) :
    Calls Tryz.prog 184 #[.slice ao l.length cp, .int .i64 x] w fun e w' => RJs e (x ∈ l) ∧ w' = w := by
  have hlen := h.len
  have HS := hide h
  clear h
  go_enter Tryz.func184, Tryz.ntmps184
  go_wp2_with fail
  go_loop [8] (fun y => ∃ j : Nat, j ≤ l.length ∧ y = .int .i64 (j : Int) ∧ Hid (∀ k (hk : k < l.length), k < j → l[k] ≠ x)) (fun y => l.length - (intOf y).toNat)
  case atStart => exact ⟨0, by omega, rfl, (fun k _ hk => by omega)⟩
  case round =>
    obtain ⟨j, hj, rfl, HQ⟩ := hrel
    by_cases hlt : j < l.length
    · obtain ⟨o, e1, c1⟩ := HS.out.at_ (by omega)
      have k1 := c1 j hlt
      obtain ⟨z, hz⟩ : ∃ z, l[j] = z := ⟨_, rfl⟩
      have HZ := hide hz
      rw [hz] at k1
      clear c1 hz
      subst e1
      by_cases he : z = x
      · have hm : x ∈ l := by rw [← he, ← HZ.out]; exact List.getElem_mem hlt
        have HM := hide hm
        clear hm
        subst he
        go_wp2_with fail
        go_ret
        exact ⟨⟨_, rfl, fun _ => HM.out, fun _ => by omega⟩, rfl⟩
      · have hb : (x == z) = false := by simp [Ne.symm he]
        go_wp2_with fail
        go_round
        case rel =>
          refine ⟨j + 1, by omega, by go_num, ?_⟩
          intro k hk hkj
          by_cases ek : k = j
          · subst ek; rw [HZ.out]; exact he
          · exact HQ.out k hk (by omega)
        case measure => simp [intOf]; omega
    · have HM := hide (snot_mem_take HQ.out (by omega))
      go_wp2_with fail
      go_ret
      exact ⟨⟨_, rfl, fun h => absurd h (by decide), fun h => absurd h HM.out⟩, rfl⟩
set_option maxRecDepth 100000 in
set_option maxHeartbeats 800000 in
theorem scontains_any (w : World) (B cp : Nat) (ao : Option Addr) (l : List Int) (x : Int) (h : Nz w B ao l) :
    Calls Tryz.prog 146 #[.slice ao l.length cp, .int .i64 x] w fun e w' => e = .returned (.bool (decide (x ∈ l))) ∧ w' = w := by
  have HC := hide (sindex_any w B cp ao l x h)
  clear h
  go_enter Tryz.func146, Tryz.ntmps146
  go_wp2_with fail
  refine HC.out.mono ?_
  rintro e w1 ⟨⟨c, rfl, hc⟩, rfl⟩
  have HP := hide hc
  clear hc HC
  by_cases h0 : 0 ≤ c
  · have g0 : decide (0 ≤ c) = true := decide_eq_true h0
    go_wp2_with fail
    go_ret
    exact ⟨ret_bool (by rw [decide_eq_true (HP.out.1 h0)]), rfl⟩
  · have g0 : decide (0 ≤ c) = false := decide_eq_false h0
    go_wp2_with fail
    go_ret
    exact ⟨ret_bool (by rw [decide_eq_false (fun h => by have := HP.out.2 h; omega)]), rfl⟩
end Go.Proofs.YtpnbhddmdfcjdaaGreat
namespace Go.Proofs.YtpnbhddmdfcjdaaGreat
open Go.RowKit
theorem cat_eqU (a : List UInt8) (s : ByteArray) : (⟨a.toArray⟩ : ByteArray) ++ s = ⟨(a ++ s.data.toList).toArray⟩ := by
  obtain ⟨⟨l⟩⟩ := s
  apply ByteArray.ext
  simp
theorem strs2 (w : World) (k v : ByteArray) (hk : k.size ≤ 24) (hv : v.size ≤ 64) : Strs (w.alloc (.cells #[.string k, .string v] 9)) w.heap.size (some ⟨w.heap.size, 0, none⟩) [k, v] := by
  refine ⟨fun _ => ⟨0, rfl, fun j hj => ?_⟩, fun _ => by simp, by simp, fun s hs => ?_⟩
  · match j, hj with
    | 0, _ => simp
    | 1, _ => simp
  · simp only [List.mem_cons, List.not_mem_nil, or_false] at hs
    rcases hs with rfl | rfl <;> omega
theorem strs1 (w : World) (k : ByteArray) (hk : k.size ≤ 24) : Strs (w.alloc (.cells #[.string k] 9)) w.heap.size (some ⟨w.heap.size, 0, none⟩) [k] := by
  refine ⟨fun _ => ⟨0, rfl, fun j hj => ?_⟩, fun _ => by simp, by simp, fun s hs => ?_⟩
  · match j, hj with
    | 0, _ => simp
  · simp only [List.mem_cons, List.not_mem_nil, or_false] at hs
    subst hs
    omega
theorem str_catU (a b : List UInt8) : str a ++ str b = str (a ++ b) := cat_eqU a ⟨b.toArray⟩
theorem i64_nat {x : Int} (h : 0 ≤ x) : ((x.toNat : Nat) : Int) = x := by omega
theorem uencode_bad (t : Tu) (w : World) (h0 : -9223372036854775808 ≤ t.xmin ∧ t.xmin < 9223372036854775808) (h1 : -9223372036854775808 ≤ t.xmax ∧ t.xmax < 9223372036854775808) (h : t.ok = false) :
    Calls Tryz.prog 21 #[t.agg] w fun e w' => e = .returned (.tuple #[.string ⟨#[]⟩, .int .i64 110]) ∧ Only (fun _ => False) w w' := by
  have HC : Hid (∀ W, Calls Tryz.prog 50 #[t.agg] W fun e w' => e = .returned (.bool false) ∧ Only (fun _ => False) W w') := fun W => by
    have := isVersion_any t W h0 h1
    rwa [h] at this
  clear h h0 h1
  unfold Tu.agg
  unfold Tu.agg at HC
  go_enter Tryz.func21, Tryz.ntmps21
  go_wp2_with fail
  refine (HC.out _).mono ?_
  rintro e w1 ⟨rfl, ho⟩
  have HO := hide (o2 (onlyA w _) ho)
  clear ho
  go_wp2_with fail
  go_ret2
  exact ⟨rfl, HO.out⟩
set_option maxRecDepth 100000 in
set_option maxHeartbeats 3200000 in
theorem uencode_ok (t : Tu) (w : World) (h : t.ok = true) :
    Calls Tryz.prog 21 #[t.agg] w fun e w' => e = .returned (.tuple #[.string (str t.enc), .int .i64 0]) ∧ Only (fun _ => False) w w' := by
  have hk' := Tu.ok_iff.1 h
  have HK : Hid (t.key.size ≤ 24) := hk'.2.2.2.2.2.1
  have HV : Hid (t.value.size ≤ 64) := hk'.2.2.2.2.2.2
  obtain ⟨M, hM⟩ : ∃ M : ByteArray, (⟨#[mkB t.frozen]⟩ : ByteArray) = M := ⟨_, rfl⟩
  have sM : M.size = 1 := by rw [← hM]; rfl
  have eM : M = str [mkB t.frozen] := hM.symm
  obtain ⟨Y1, hY1⟩ : ∃ Y, str (bigF 2 t.xmin.toNat) = Y := ⟨_, rfl⟩
  have sY1 : Y1.size ≤ 2 := by rw [← hY1, str_size]; rw [bigF_len]; omega
  obtain ⟨C1, hC1⟩ : ∃ C, M ++ Y1 = C := ⟨_, rfl⟩
  have eC1 : C1 = str ([mkB t.frozen] ++ bigF 2 t.xmin.toNat) := by rw [← hC1, eM, ← hY1, str_catU]
  have sC1 : C1.size ≤ 3 := by rw [← hC1, ByteArray.size_append]; omega
  have yC1 : M.size + Y1.size ≤ 9223372036854775807 := by omega
  obtain ⟨Y2, hY2⟩ : ∃ Y, str (bigF 2 t.xmax.toNat) = Y := ⟨_, rfl⟩
  have sY2 : Y2.size ≤ 2 := by rw [← hY2, str_size]; rw [bigF_len]; omega
  obtain ⟨C2, hC2⟩ : ∃ C, C1 ++ Y2 = C := ⟨_, rfl⟩
  have eC2 : C2 = str (([mkB t.frozen] ++ bigF 2 t.xmin.toNat) ++ bigF 2 t.xmax.toNat) := by rw [← hC2, eC1, ← hY2, str_catU]
  have sC2 : C2.size ≤ 5 := by rw [← hC2, ByteArray.size_append]; omega
  have yC2 : C1.size + Y2.size ≤ 9223372036854775807 := by omega
  obtain ⟨Y3, hY3⟩ : ∃ Y, str (txsL [t.key, t.value]) = Y := ⟨_, rfl⟩
  have sY3 : Y3.size ≤ 90 := by rw [← hY3, str_size]; have := txL_len t.key (by omega); have := txL_len t.value (by omega); simp [txsL]; omega
  obtain ⟨C3, hC3⟩ : ∃ C, C2 ++ Y3 = C := ⟨_, rfl⟩
  have eC3 : C3 = str ((([mkB t.frozen] ++ bigF 2 t.xmin.toNat) ++ bigF 2 t.xmax.toNat) ++ txsL [t.key, t.value]) := by rw [← hC3, eC2, ← hY3, str_catU]
  have sC3 : C3.size ≤ 95 := by rw [← hC3, ByteArray.size_append]; omega
  have yC3 : C2.size + Y3.size ≤ 9223372036854775807 := by omega
  have HE : Hid (C3 = str t.enc) := by
    unfold Hid
    rw [eC3]
    unfold Tu.enc txsL
    simp
  have HC : Hid (∀ W, Calls Tryz.prog 50 #[.agg #[.int .i64 t.xmin, .int .i64 t.xmax, .bool t.frozen, .string t.key, .string t.value]] W fun e w' => e = .returned (.bool true) ∧ Only (fun _ => False) W w') := fun W => by
    have := isVersion_any t W (by omega) (by omega)
    rwa [h] at this
  have HM : Hid (∀ W, Calls Tryz.prog 51 #[.bool t.frozen] W fun e w' => e = .returned (.string M) ∧ w' = W) := fun W => by
    rw [← hM]
    exact umark_any t.frozen W
  have HG1 : Hid (∀ W, Calls Tryz.prog 52 #[.int .i64 t.xmin, .int .i64 2] W fun e w' => e = .returned (.string Y1) ∧ Only (fun _ => False) W w') := fun W => by
    have := big_any t.xmin.toNat 2 W (by omega) (by omega) (by omega)
    rw [i64_nat (by omega)] at this
    rw [← hY1]
    exact this
  have HG2 : Hid (∀ W, Calls Tryz.prog 52 #[.int .i64 t.xmax, .int .i64 2] W fun e w' => e = .returned (.string Y2) ∧ Only (fun _ => False) W w') := fun W => by
    have := big_any t.xmax.toNat 2 W (by omega) (by omega) (by omega)
    rw [i64_nat (by omega)] at this
    rw [← hY2]
    exact this
  have HG3 : Hid (∀ W B, Strs W B (some ⟨B, 0, none⟩) [t.key, t.value] → Calls Tryz.prog 49 #[.slice (some ⟨B, 0, none⟩) 2 2] W fun e w' => e = .returned (.string Y3) ∧ Only (fun _ => False) W w') := fun W B hs => by
    rw [← hY3]
    exact ulaid_any W B 2 (some ⟨B, 0, none⟩) [t.key, t.value] hs (by simp) (fun s hs => by
      simp only [List.mem_cons, List.not_mem_nil, or_false] at hs
      rcases hs with rfl | rfl <;> omega)
  clear hk' h hM eM hY1 hY2 hY3 eC1 eC2 eC3 sM sY1 sY2 sY3 sC1 sC2 sC3
  unfold Tu.agg
  have HB0 := hide (Tb.new w t)
  go_enter Tryz.func21, Tryz.ntmps21
  go_wp2_with fail
  refine (HC.out _).mono ?_
  rintro e W0 ⟨rfl, ho⟩
  have HB := hide (HB0.out.more ho)
  have HO := hide (o2 (onlyA w _) ho)
  clear ho HB0 HC
  go_upto_region 3 with fail
  refine wp_region_noPanic ?_
  refine wp_region_held_drew (S := fun W => Only (fun _ => False) W0 W) (by kernel_rfl) (Only.drew _ _) (fun hHeld => ?_)
  refine wpAnyH_take (i := 0) (oi := { dst := some 7, op := Op.fieldAddr 62 (Operand.tmp 1) 2, type := 0, pos := "tuple.go:35", after := #[], guard := none }) (v := .pointer (some ⟨w.heap.size, 2, none⟩)) rfl (by kernel_rfl) (by kernel_rfl) (by kernel_rfl) (fun _ _ _ h => h) (Or.inl ⟨by rfl, fun w' hSw => by clear hSw; go_simp⟩) (by assumption) ?_
  simp only [Act.put, List.setIfInBounds_toArray, List.set_cons_zero, List.set_cons_succ]
  refine wpAnyH_take (i := 3) (oi := { dst := some 10, op := Op.fieldAddr 62 (Operand.tmp 1) 0, type := 0, pos := "tuple.go:35", after := #[], guard := none }) (v := .pointer (some ⟨w.heap.size, 0, none⟩)) rfl (by kernel_rfl) (by kernel_rfl) (by kernel_rfl) (fun _ _ _ h => h) (Or.inl ⟨by rfl, fun w' hSw => by clear hSw; go_simp⟩) (by assumption) ?_
  simp only [Act.put, List.setIfInBounds_toArray, List.set_cons_zero, List.set_cons_succ]
  refine wpAnyH_take (i := 7) (oi := { dst := some 14, op := Op.fieldAddr 62 (Operand.tmp 1) 1, type := 0, pos := "tuple.go:35", after := #[], guard := none }) (v := .pointer (some ⟨w.heap.size, 1, none⟩)) rfl (by kernel_rfl) (by kernel_rfl) (by kernel_rfl) (fun _ _ _ h => h) (Or.inl ⟨by rfl, fun w' hSw => by clear hSw; go_simp⟩) (by assumption) ?_
  simp only [Act.put, List.setIfInBounds_toArray, List.set_cons_zero, List.set_cons_succ]
  refine wpAnyH_take (i := 11) (oi := { dst := some 18, op := Op.fieldAddr 62 (Operand.tmp 1) 3, type := 0, pos := "tuple.go:35", after := #[], guard := none }) (v := .pointer (some ⟨w.heap.size, 3, none⟩)) rfl (by kernel_rfl) (by kernel_rfl) (by kernel_rfl) (fun _ _ _ h => h) (Or.inl ⟨by rfl, fun w' hSw => by clear hSw; go_simp⟩) (by assumption) ?_
  simp only [Act.put, List.setIfInBounds_toArray, List.set_cons_zero, List.set_cons_succ]
  refine wpAnyH_take (i := 13) (oi := { dst := some 20, op := Op.fieldAddr 62 (Operand.tmp 1) 4, type := 0, pos := "tuple.go:35", after := #[], guard := none }) (v := .pointer (some ⟨w.heap.size, 4, none⟩)) rfl (by kernel_rfl) (by kernel_rfl) (by kernel_rfl) (fun _ _ _ h => h) (Or.inl ⟨by rfl, fun w' hSw => by clear hSw; go_simp⟩) (by assumption) ?_
  simp only [Act.put, List.setIfInBounds_toArray, List.set_cons_zero, List.set_cons_succ]
  refine wpAnyH_take (i := 1) (oi := { dst := some 8, op := Op.load 4 (Operand.tmp 7), type := 4, pos := "tuple.go:35", after := #[{ on := 0, ground := Ground.data }], guard := none }) (v := .bool t.frozen) rfl (by kernel_rfl) (by kernel_rfl) (by kernel_rfl) (fun _ _ _ h => h) (yieldsIf_load_cell (by rfl) 4 _ rfl _ rfl (fun W hW => (HB.out.more hW).c2) (fun W hc => ld_bool hc)) (by assumption) ?_
  simp only [Act.put, List.setIfInBounds_toArray, List.set_cons_zero, List.set_cons_succ]
  refine wpAnyH_take (i := 4) (oi := { dst := some 11, op := Op.load 3 (Operand.tmp 10), type := 3, pos := "tuple.go:35", after := #[{ on := 3, ground := Ground.data }], guard := none }) (v := .int .i64 t.xmin) rfl (by kernel_rfl) (by kernel_rfl) (by kernel_rfl) (fun _ _ _ h => h) (yieldsIf_load_cell (by rfl) 3 _ rfl _ rfl (fun W hW => (HB.out.more hW).c0) (fun W hc => ld_int hc)) (by assumption) ?_
  simp only [Act.put, List.setIfInBounds_toArray, List.set_cons_zero, List.set_cons_succ]
  refine wpAnyH_take (i := 8) (oi := { dst := some 15, op := Op.load 3 (Operand.tmp 14), type := 3, pos := "tuple.go:35", after := #[{ on := 7, ground := Ground.data }], guard := none }) (v := .int .i64 t.xmax) rfl (by kernel_rfl) (by kernel_rfl) (by kernel_rfl) (fun _ _ _ h => h) (yieldsIf_load_cell (by rfl) 3 _ rfl _ rfl (fun W hW => (HB.out.more hW).c1) (fun W hc => ld_int hc)) (by assumption) ?_
  simp only [Act.put, List.setIfInBounds_toArray, List.set_cons_zero, List.set_cons_succ]
  refine wpAnyH_take (i := 12) (oi := { dst := some 19, op := Op.load 9 (Operand.tmp 18), type := 9, pos := "tuple.go:35", after := #[{ on := 11, ground := Ground.data }], guard := none }) (v := .string t.key) rfl (by kernel_rfl) (by kernel_rfl) (by kernel_rfl) (fun _ _ _ h => h) (yieldsIf_load_cell (by rfl) 9 _ rfl _ rfl (fun W hW => (HB.out.more hW).c3) (fun W hc => ld_string hc)) (by assumption) ?_
  simp only [Act.put, List.setIfInBounds_toArray, List.set_cons_zero, List.set_cons_succ]
  refine wpAnyH_take (i := 14) (oi := { dst := some 21, op := Op.load 9 (Operand.tmp 20), type := 9, pos := "tuple.go:35", after := #[{ on := 13, ground := Ground.data }], guard := none }) (v := .string t.value) rfl (by kernel_rfl) (by kernel_rfl) (by kernel_rfl) (fun _ _ _ h => h) (yieldsIf_load_cell (by rfl) 9 _ rfl _ rfl (fun W hW => (HB.out.more hW).c4) (fun W hc => ld_string hc)) (by assumption) ?_
  simp only [Act.put, List.setIfInBounds_toArray, List.set_cons_zero, List.set_cons_succ]
  refine wpAnyH_ready (rs := [2, 15]) (by kernel_rfl) (by simp) ?_
  refine AllReadyH.cons (o := { dst := some 9, op := Op.call { callee := Callee.value (Operand.func 51), args := #[Operand.tmp 8], argTypes := #[4] }, type := 9, pos := "tuple.go:35", after := #[{ on := 1, ground := Ground.data }], guard := none }) rfl (fun K hK => ?_) (AllReadyH.cons (o := { dst := some 22, op := Op.buildSlice 28 2 #[(0, Operand.tmp 19), (1, Operand.tmp 21)], type := 28, pos := "tuple.go:35", after := #[{ on := 12, ground := Ground.data }, { on := 14, ground := Ground.data }], guard := none }) rfl (fun K hK => ?_) (AllReadyH.nil))
  · go_simp
    refine (HM.out _).mono ?_
    rintro e _ ⟨rfl, rfl⟩
    refine hK.out _ _ ((Only.drew _ _)) (fun hHeld => ?_)
    clear hK K
    try simp only [Act.put, List.setIfInBounds_toArray, List.set_cons_zero, List.set_cons_succ]
    refine wpAnyH_ready (rs := [5, 15]) (by kernel_rfl) (by simp) ?_
    refine AllReadyH.cons (o := { dst := some 12, op := Op.call { callee := Callee.value (Operand.func 52), args := #[Operand.tmp 11, Operand.const (Value.int IntKind.i64 2)], argTypes := #[3, 3] }, type := 9, pos := "tuple.go:35", after := #[{ on := 4, ground := Ground.data }, { on := 2, ground := Ground.chain }], guard := none }) rfl (fun K hK => ?_) (AllReadyH.cons (o := { dst := some 22, op := Op.buildSlice 28 2 #[(0, Operand.tmp 19), (1, Operand.tmp 21)], type := 28, pos := "tuple.go:35", after := #[{ on := 12, ground := Ground.data }, { on := 14, ground := Ground.data }], guard := none }) rfl (fun K hK => ?_) (AllReadyH.nil))
    · go_simp
      refine (HG1.out _).mono ?_
      rintro e x1 ⟨rfl, hx1⟩
      have HX1 := hide (o2 (Only.drew _ _) hx1)
      clear hx1
      refine hK.out _ _ (HX1.out) (fun hHeld => ?_)
      clear hK K
      try simp only [Act.put, List.setIfInBounds_toArray, List.set_cons_zero, List.set_cons_succ]
      refine wpAnyH_take (i := 6) (oi := { dst := some 13, op := Op.binOp BinOp.add 9 (Operand.tmp 9) (Operand.tmp 12) 9, type := 9, pos := "tuple.go:35", after := #[{ on := 2, ground := Ground.data }, { on := 5, ground := Ground.data }], guard := none }) (v := .string C1) rfl (by kernel_rfl) (by kernel_rfl) (by kernel_rfl) (fun _ _ _ h => h) (Or.inl ⟨by rfl, fun w' hSw => by clear hSw; go_simp⟩) (by assumption) ?_
      simp only [Act.put, List.setIfInBounds_toArray, List.set_cons_zero, List.set_cons_succ]
      refine wpAnyH_ready (rs := [9, 15]) (by kernel_rfl) (by simp) ?_
      refine AllReadyH.cons (o := { dst := some 16, op := Op.call { callee := Callee.value (Operand.func 52), args := #[Operand.tmp 15, Operand.const (Value.int IntKind.i64 2)], argTypes := #[3, 3] }, type := 9, pos := "tuple.go:35", after := #[{ on := 8, ground := Ground.data }, { on := 5, ground := Ground.chain }], guard := none }) rfl (fun K hK => ?_) (AllReadyH.cons (o := { dst := some 22, op := Op.buildSlice 28 2 #[(0, Operand.tmp 19), (1, Operand.tmp 21)], type := 28, pos := "tuple.go:35", after := #[{ on := 12, ground := Ground.data }, { on := 14, ground := Ground.data }], guard := none }) rfl (fun K hK => ?_) (AllReadyH.nil))
      · go_simp
        refine (HG2.out _).mono ?_
        rintro e x2 ⟨rfl, hx2⟩
        have HX2 := hide (o2 HX1.out hx2)
        clear hx2
        refine hK.out _ _ (HX2.out) (fun hHeld => ?_)
        clear hK K
        try simp only [Act.put, List.setIfInBounds_toArray, List.set_cons_zero, List.set_cons_succ]
        refine wpAnyH_take (i := 10) (oi := { dst := some 17, op := Op.binOp BinOp.add 9 (Operand.tmp 13) (Operand.tmp 16) 9, type := 9, pos := "tuple.go:35", after := #[{ on := 6, ground := Ground.data }, { on := 9, ground := Ground.data }], guard := none }) (v := .string C2) rfl (by kernel_rfl) (by kernel_rfl) (by kernel_rfl) (fun _ _ _ h => h) (Or.inl ⟨by rfl, fun w' hSw => by clear hSw; go_simp⟩) (by assumption) ?_
        simp only [Act.put, List.setIfInBounds_toArray, List.set_cons_zero, List.set_cons_succ]
        refine wpAnyH_ready (rs := [15]) (by kernel_rfl) (by simp) ?_
        refine AllReadyH.cons (o := { dst := some 22, op := Op.buildSlice 28 2 #[(0, Operand.tmp 19), (1, Operand.tmp 21)], type := 28, pos := "tuple.go:35", after := #[{ on := 12, ground := Ground.data }, { on := 14, ground := Ground.data }], guard := none }) rfl (fun K hK => ?_) (AllReadyH.nil)
        go_simp
        have HS := hide (strs2 x2 t.key t.value HK.out HV.out)
        refine hK.out _ _ (o2 HX2.out (onlyA _ _)) (fun hHeld => ?_)
        clear hK K
        try simp only [Act.put, List.setIfInBounds_toArray, List.set_cons_zero, List.set_cons_succ]
        refine wpAnyH_ready (rs := [16]) (by kernel_rfl) (by simp) ?_
        refine AllReadyH.cons (o := { dst := some 23, op := Op.call { callee := Callee.value (Operand.func 49), args := #[Operand.tmp 22], argTypes := #[28] }, type := 9, pos := "tuple.go:35", after := #[{ on := 15, ground := Ground.data }, { on := 9, ground := Ground.chain }], guard := none }) rfl (fun K hK => ?_) (AllReadyH.nil)
        go_simp
        refine (HG3.out _ x2.heap.size HS.out).mono ?_
        rintro e x3 ⟨rfl, hx3⟩
        have HX3 := hide (o2 (o2 HX2.out (onlyA _ _)) hx3)
        clear hx3
        refine hK.out _ _ (HX3.out) (fun hHeld => ?_)
        clear hK K
        try simp only [Act.put, List.setIfInBounds_toArray, List.set_cons_zero, List.set_cons_succ]
        refine wpAnyH_take (i := 17) (oi := { dst := some 24, op := Op.binOp BinOp.add 9 (Operand.tmp 17) (Operand.tmp 23) 9, type := 9, pos := "tuple.go:35", after := #[{ on := 10, ground := Ground.data }, { on := 16, ground := Ground.data }], guard := none }) (v := .string C3) rfl (by kernel_rfl) (by kernel_rfl) (by kernel_rfl) (fun _ _ _ h => h) (Or.inl ⟨by rfl, fun w' hSw => by clear hSw; go_simp⟩) (by assumption) ?_
        simp only [Act.put, List.setIfInBounds_toArray, List.set_cons_zero, List.set_cons_succ]
        refine wpAnyH_take (i := 18) (oi := { dst := some 2, op := Op.assign (Operand.tmp 24), type := 9, pos := "tuple.go:35", after := #[{ on := 17, ground := Ground.data }, { on := 16, ground := Ground.chain }, { on := 0, ground := Ground.phase }, { on := 1, ground := Ground.phase }, { on := 2, ground := Ground.phase }, { on := 3, ground := Ground.phase }, { on := 4, ground := Ground.phase }, { on := 5, ground := Ground.phase }, { on := 6, ground := Ground.phase }, { on := 7, ground := Ground.phase }, { on := 8, ground := Ground.phase }, { on := 9, ground := Ground.phase }, { on := 10, ground := Ground.phase }, { on := 11, ground := Ground.phase }, { on := 12, ground := Ground.phase }, { on := 13, ground := Ground.phase }, { on := 14, ground := Ground.phase }, { on := 15, ground := Ground.phase }, { on := 16, ground := Ground.phase }, { on := 17, ground := Ground.phase }], guard := none }) (v := .string C3) rfl (by kernel_rfl) (by kernel_rfl) (by kernel_rfl) (fun _ _ _ h => h) (Or.inl ⟨by rfl, fun w' hSw => by clear hSw; go_simp⟩) (by assumption) ?_
        simp only [Act.put, List.setIfInBounds_toArray, List.set_cons_zero, List.set_cons_succ]
        refine wpAnyH_take (i := 19) (oi := { dst := some 3, op := Op.assign (Operand.const (Value.int IntKind.i64 0)), type := 53, pos := "tuple.go:35", after := #[{ on := 18, ground := Ground.chain }, { on := 0, ground := Ground.phase }, { on := 1, ground := Ground.phase }, { on := 2, ground := Ground.phase }, { on := 3, ground := Ground.phase }, { on := 4, ground := Ground.phase }, { on := 5, ground := Ground.phase }, { on := 6, ground := Ground.phase }, { on := 7, ground := Ground.phase }, { on := 8, ground := Ground.phase }, { on := 9, ground := Ground.phase }, { on := 10, ground := Ground.phase }, { on := 11, ground := Ground.phase }, { on := 12, ground := Ground.phase }, { on := 13, ground := Ground.phase }, { on := 14, ground := Ground.phase }, { on := 15, ground := Ground.phase }, { on := 16, ground := Ground.phase }, { on := 17, ground := Ground.phase }, { on := 18, ground := Ground.phase }], guard := none }) (v := .int .i64 0) rfl (by kernel_rfl) (by kernel_rfl) (by kernel_rfl) (fun _ _ _ h => h) (Or.inl ⟨by rfl, fun w' hSw => by clear hSw; go_simp⟩) (by assumption) ?_
        simp only [Act.put, List.setIfInBounds_toArray, List.set_cons_zero, List.set_cons_succ]
        refine wpAnyH_done (by kernel_rfl) ?_ _
        refine NoPanic.normal ?_
        rw [Exit.then]
        go_wp2_with fail
        go_ret2
        exact ⟨by simp [HE.out], o2 HO.out HX3.out⟩
      · go_simp
        have HS := hide (strs2 x1 t.key t.value HK.out HV.out)
        refine hK.out _ _ (o2 HX1.out (onlyA _ _)) (fun hHeld => ?_)
        clear hK K
        try simp only [Act.put, List.setIfInBounds_toArray, List.set_cons_zero, List.set_cons_succ]
        refine wpAnyH_ready (rs := [9]) (by kernel_rfl) (by simp) ?_
        refine AllReadyH.cons (o := { dst := some 16, op := Op.call { callee := Callee.value (Operand.func 52), args := #[Operand.tmp 15, Operand.const (Value.int IntKind.i64 2)], argTypes := #[3, 3] }, type := 9, pos := "tuple.go:35", after := #[{ on := 8, ground := Ground.data }, { on := 5, ground := Ground.chain }], guard := none }) rfl (fun K hK => ?_) (AllReadyH.nil)
        go_simp
        refine (HG2.out _).mono ?_
        rintro e x2 ⟨rfl, hx2⟩
        have HX2 := hide (o2 (o2 HX1.out (onlyA _ _)) hx2)
        have HS := hide (HS.out.more hx2)
        clear hx2
        refine hK.out _ _ (HX2.out) (fun hHeld => ?_)
        clear hK K
        try simp only [Act.put, List.setIfInBounds_toArray, List.set_cons_zero, List.set_cons_succ]
        refine wpAnyH_take (i := 10) (oi := { dst := some 17, op := Op.binOp BinOp.add 9 (Operand.tmp 13) (Operand.tmp 16) 9, type := 9, pos := "tuple.go:35", after := #[{ on := 6, ground := Ground.data }, { on := 9, ground := Ground.data }], guard := none }) (v := .string C2) rfl (by kernel_rfl) (by kernel_rfl) (by kernel_rfl) (fun _ _ _ h => h) (Or.inl ⟨by rfl, fun w' hSw => by clear hSw; go_simp⟩) (by assumption) ?_
        simp only [Act.put, List.setIfInBounds_toArray, List.set_cons_zero, List.set_cons_succ]
        refine wpAnyH_ready (rs := [16]) (by kernel_rfl) (by simp) ?_
        refine AllReadyH.cons (o := { dst := some 23, op := Op.call { callee := Callee.value (Operand.func 49), args := #[Operand.tmp 22], argTypes := #[28] }, type := 9, pos := "tuple.go:35", after := #[{ on := 15, ground := Ground.data }, { on := 9, ground := Ground.chain }], guard := none }) rfl (fun K hK => ?_) (AllReadyH.nil)
        go_simp
        refine (HG3.out _ x1.heap.size HS.out).mono ?_
        rintro e x3 ⟨rfl, hx3⟩
        have HX3 := hide (o2 HX2.out hx3)
        clear hx3
        refine hK.out _ _ (HX3.out) (fun hHeld => ?_)
        clear hK K
        try simp only [Act.put, List.setIfInBounds_toArray, List.set_cons_zero, List.set_cons_succ]
        refine wpAnyH_take (i := 17) (oi := { dst := some 24, op := Op.binOp BinOp.add 9 (Operand.tmp 17) (Operand.tmp 23) 9, type := 9, pos := "tuple.go:35", after := #[{ on := 10, ground := Ground.data }, { on := 16, ground := Ground.data }], guard := none }) (v := .string C3) rfl (by kernel_rfl) (by kernel_rfl) (by kernel_rfl) (fun _ _ _ h => h) (Or.inl ⟨by rfl, fun w' hSw => by clear hSw; go_simp⟩) (by assumption) ?_
        simp only [Act.put, List.setIfInBounds_toArray, List.set_cons_zero, List.set_cons_succ]
        refine wpAnyH_take (i := 18) (oi := { dst := some 2, op := Op.assign (Operand.tmp 24), type := 9, pos := "tuple.go:35", after := #[{ on := 17, ground := Ground.data }, { on := 16, ground := Ground.chain }, { on := 0, ground := Ground.phase }, { on := 1, ground := Ground.phase }, { on := 2, ground := Ground.phase }, { on := 3, ground := Ground.phase }, { on := 4, ground := Ground.phase }, { on := 5, ground := Ground.phase }, { on := 6, ground := Ground.phase }, { on := 7, ground := Ground.phase }, { on := 8, ground := Ground.phase }, { on := 9, ground := Ground.phase }, { on := 10, ground := Ground.phase }, { on := 11, ground := Ground.phase }, { on := 12, ground := Ground.phase }, { on := 13, ground := Ground.phase }, { on := 14, ground := Ground.phase }, { on := 15, ground := Ground.phase }, { on := 16, ground := Ground.phase }, { on := 17, ground := Ground.phase }], guard := none }) (v := .string C3) rfl (by kernel_rfl) (by kernel_rfl) (by kernel_rfl) (fun _ _ _ h => h) (Or.inl ⟨by rfl, fun w' hSw => by clear hSw; go_simp⟩) (by assumption) ?_
        simp only [Act.put, List.setIfInBounds_toArray, List.set_cons_zero, List.set_cons_succ]
        refine wpAnyH_take (i := 19) (oi := { dst := some 3, op := Op.assign (Operand.const (Value.int IntKind.i64 0)), type := 53, pos := "tuple.go:35", after := #[{ on := 18, ground := Ground.chain }, { on := 0, ground := Ground.phase }, { on := 1, ground := Ground.phase }, { on := 2, ground := Ground.phase }, { on := 3, ground := Ground.phase }, { on := 4, ground := Ground.phase }, { on := 5, ground := Ground.phase }, { on := 6, ground := Ground.phase }, { on := 7, ground := Ground.phase }, { on := 8, ground := Ground.phase }, { on := 9, ground := Ground.phase }, { on := 10, ground := Ground.phase }, { on := 11, ground := Ground.phase }, { on := 12, ground := Ground.phase }, { on := 13, ground := Ground.phase }, { on := 14, ground := Ground.phase }, { on := 15, ground := Ground.phase }, { on := 16, ground := Ground.phase }, { on := 17, ground := Ground.phase }, { on := 18, ground := Ground.phase }], guard := none }) (v := .int .i64 0) rfl (by kernel_rfl) (by kernel_rfl) (by kernel_rfl) (fun _ _ _ h => h) (Or.inl ⟨by rfl, fun w' hSw => by clear hSw; go_simp⟩) (by assumption) ?_
        simp only [Act.put, List.setIfInBounds_toArray, List.set_cons_zero, List.set_cons_succ]
        refine wpAnyH_done (by kernel_rfl) ?_ _
        refine NoPanic.normal ?_
        rw [Exit.then]
        go_wp2_with fail
        go_ret2
        exact ⟨by simp [HE.out], o2 HO.out HX3.out⟩
    · go_simp
      have HS := hide (strs2 W0.drew t.key t.value HK.out HV.out)
      refine hK.out _ _ (o2 (Only.drew _ _) (onlyA _ _)) (fun hHeld => ?_)
      clear hK K
      try simp only [Act.put, List.setIfInBounds_toArray, List.set_cons_zero, List.set_cons_succ]
      refine wpAnyH_ready (rs := [5]) (by kernel_rfl) (by simp) ?_
      refine AllReadyH.cons (o := { dst := some 12, op := Op.call { callee := Callee.value (Operand.func 52), args := #[Operand.tmp 11, Operand.const (Value.int IntKind.i64 2)], argTypes := #[3, 3] }, type := 9, pos := "tuple.go:35", after := #[{ on := 4, ground := Ground.data }, { on := 2, ground := Ground.chain }], guard := none }) rfl (fun K hK => ?_) (AllReadyH.nil)
      go_simp
      refine (HG1.out _).mono ?_
      rintro e x1 ⟨rfl, hx1⟩
      have HX1 := hide (o2 (o2 (Only.drew _ _) (onlyA _ _)) hx1)
      have HS := hide (HS.out.more hx1)
      clear hx1
      refine hK.out _ _ (HX1.out) (fun hHeld => ?_)
      clear hK K
      try simp only [Act.put, List.setIfInBounds_toArray, List.set_cons_zero, List.set_cons_succ]
      refine wpAnyH_take (i := 6) (oi := { dst := some 13, op := Op.binOp BinOp.add 9 (Operand.tmp 9) (Operand.tmp 12) 9, type := 9, pos := "tuple.go:35", after := #[{ on := 2, ground := Ground.data }, { on := 5, ground := Ground.data }], guard := none }) (v := .string C1) rfl (by kernel_rfl) (by kernel_rfl) (by kernel_rfl) (fun _ _ _ h => h) (Or.inl ⟨by rfl, fun w' hSw => by clear hSw; go_simp⟩) (by assumption) ?_
      simp only [Act.put, List.setIfInBounds_toArray, List.set_cons_zero, List.set_cons_succ]
      refine wpAnyH_ready (rs := [9]) (by kernel_rfl) (by simp) ?_
      refine AllReadyH.cons (o := { dst := some 16, op := Op.call { callee := Callee.value (Operand.func 52), args := #[Operand.tmp 15, Operand.const (Value.int IntKind.i64 2)], argTypes := #[3, 3] }, type := 9, pos := "tuple.go:35", after := #[{ on := 8, ground := Ground.data }, { on := 5, ground := Ground.chain }], guard := none }) rfl (fun K hK => ?_) (AllReadyH.nil)
      go_simp
      refine (HG2.out _).mono ?_
      rintro e x2 ⟨rfl, hx2⟩
      have HX2 := hide (o2 HX1.out hx2)
      have HS := hide (HS.out.more hx2)
      clear hx2
      refine hK.out _ _ (HX2.out) (fun hHeld => ?_)
      clear hK K
      try simp only [Act.put, List.setIfInBounds_toArray, List.set_cons_zero, List.set_cons_succ]
      refine wpAnyH_take (i := 10) (oi := { dst := some 17, op := Op.binOp BinOp.add 9 (Operand.tmp 13) (Operand.tmp 16) 9, type := 9, pos := "tuple.go:35", after := #[{ on := 6, ground := Ground.data }, { on := 9, ground := Ground.data }], guard := none }) (v := .string C2) rfl (by kernel_rfl) (by kernel_rfl) (by kernel_rfl) (fun _ _ _ h => h) (Or.inl ⟨by rfl, fun w' hSw => by clear hSw; go_simp⟩) (by assumption) ?_
      simp only [Act.put, List.setIfInBounds_toArray, List.set_cons_zero, List.set_cons_succ]
      refine wpAnyH_ready (rs := [16]) (by kernel_rfl) (by simp) ?_
      refine AllReadyH.cons (o := { dst := some 23, op := Op.call { callee := Callee.value (Operand.func 49), args := #[Operand.tmp 22], argTypes := #[28] }, type := 9, pos := "tuple.go:35", after := #[{ on := 15, ground := Ground.data }, { on := 9, ground := Ground.chain }], guard := none }) rfl (fun K hK => ?_) (AllReadyH.nil)
      go_simp
      refine (HG3.out _ W0.heap.size HS.out).mono ?_
      rintro e x3 ⟨rfl, hx3⟩
      have HX3 := hide (o2 HX2.out hx3)
      clear hx3
      refine hK.out _ _ (HX3.out) (fun hHeld => ?_)
      clear hK K
      try simp only [Act.put, List.setIfInBounds_toArray, List.set_cons_zero, List.set_cons_succ]
      refine wpAnyH_take (i := 17) (oi := { dst := some 24, op := Op.binOp BinOp.add 9 (Operand.tmp 17) (Operand.tmp 23) 9, type := 9, pos := "tuple.go:35", after := #[{ on := 10, ground := Ground.data }, { on := 16, ground := Ground.data }], guard := none }) (v := .string C3) rfl (by kernel_rfl) (by kernel_rfl) (by kernel_rfl) (fun _ _ _ h => h) (Or.inl ⟨by rfl, fun w' hSw => by clear hSw; go_simp⟩) (by assumption) ?_
      simp only [Act.put, List.setIfInBounds_toArray, List.set_cons_zero, List.set_cons_succ]
      refine wpAnyH_take (i := 18) (oi := { dst := some 2, op := Op.assign (Operand.tmp 24), type := 9, pos := "tuple.go:35", after := #[{ on := 17, ground := Ground.data }, { on := 16, ground := Ground.chain }, { on := 0, ground := Ground.phase }, { on := 1, ground := Ground.phase }, { on := 2, ground := Ground.phase }, { on := 3, ground := Ground.phase }, { on := 4, ground := Ground.phase }, { on := 5, ground := Ground.phase }, { on := 6, ground := Ground.phase }, { on := 7, ground := Ground.phase }, { on := 8, ground := Ground.phase }, { on := 9, ground := Ground.phase }, { on := 10, ground := Ground.phase }, { on := 11, ground := Ground.phase }, { on := 12, ground := Ground.phase }, { on := 13, ground := Ground.phase }, { on := 14, ground := Ground.phase }, { on := 15, ground := Ground.phase }, { on := 16, ground := Ground.phase }, { on := 17, ground := Ground.phase }], guard := none }) (v := .string C3) rfl (by kernel_rfl) (by kernel_rfl) (by kernel_rfl) (fun _ _ _ h => h) (Or.inl ⟨by rfl, fun w' hSw => by clear hSw; go_simp⟩) (by assumption) ?_
      simp only [Act.put, List.setIfInBounds_toArray, List.set_cons_zero, List.set_cons_succ]
      refine wpAnyH_take (i := 19) (oi := { dst := some 3, op := Op.assign (Operand.const (Value.int IntKind.i64 0)), type := 53, pos := "tuple.go:35", after := #[{ on := 18, ground := Ground.chain }, { on := 0, ground := Ground.phase }, { on := 1, ground := Ground.phase }, { on := 2, ground := Ground.phase }, { on := 3, ground := Ground.phase }, { on := 4, ground := Ground.phase }, { on := 5, ground := Ground.phase }, { on := 6, ground := Ground.phase }, { on := 7, ground := Ground.phase }, { on := 8, ground := Ground.phase }, { on := 9, ground := Ground.phase }, { on := 10, ground := Ground.phase }, { on := 11, ground := Ground.phase }, { on := 12, ground := Ground.phase }, { on := 13, ground := Ground.phase }, { on := 14, ground := Ground.phase }, { on := 15, ground := Ground.phase }, { on := 16, ground := Ground.phase }, { on := 17, ground := Ground.phase }, { on := 18, ground := Ground.phase }], guard := none }) (v := .int .i64 0) rfl (by kernel_rfl) (by kernel_rfl) (by kernel_rfl) (fun _ _ _ h => h) (Or.inl ⟨by rfl, fun w' hSw => by clear hSw; go_simp⟩) (by assumption) ?_
      simp only [Act.put, List.setIfInBounds_toArray, List.set_cons_zero, List.set_cons_succ]
      refine wpAnyH_done (by kernel_rfl) ?_ _
      refine NoPanic.normal ?_
      rw [Exit.then]
      go_wp2_with fail
      go_ret2
      exact ⟨by simp [HE.out], o2 HO.out HX3.out⟩
  · go_simp
    have HS := hide (strs2 W0.drew t.key t.value HK.out HV.out)
    refine hK.out _ _ (o2 (Only.drew _ _) (onlyA _ _)) (fun hHeld => ?_)
    clear hK K
    try simp only [Act.put, List.setIfInBounds_toArray, List.set_cons_zero, List.set_cons_succ]
    refine wpAnyH_ready (rs := [2]) (by kernel_rfl) (by simp) ?_
    refine AllReadyH.cons (o := { dst := some 9, op := Op.call { callee := Callee.value (Operand.func 51), args := #[Operand.tmp 8], argTypes := #[4] }, type := 9, pos := "tuple.go:35", after := #[{ on := 1, ground := Ground.data }], guard := none }) rfl (fun K hK => ?_) (AllReadyH.nil)
    go_simp
    refine (HM.out _).mono ?_
    rintro e _ ⟨rfl, rfl⟩
    refine hK.out _ _ ((o2 (Only.drew _ _) (onlyA _ _))) (fun hHeld => ?_)
    clear hK K
    try simp only [Act.put, List.setIfInBounds_toArray, List.set_cons_zero, List.set_cons_succ]
    refine wpAnyH_ready (rs := [5]) (by kernel_rfl) (by simp) ?_
    refine AllReadyH.cons (o := { dst := some 12, op := Op.call { callee := Callee.value (Operand.func 52), args := #[Operand.tmp 11, Operand.const (Value.int IntKind.i64 2)], argTypes := #[3, 3] }, type := 9, pos := "tuple.go:35", after := #[{ on := 4, ground := Ground.data }, { on := 2, ground := Ground.chain }], guard := none }) rfl (fun K hK => ?_) (AllReadyH.nil)
    go_simp
    refine (HG1.out _).mono ?_
    rintro e x1 ⟨rfl, hx1⟩
    have HX1 := hide (o2 (o2 (Only.drew _ _) (onlyA _ _)) hx1)
    have HS := hide (HS.out.more hx1)
    clear hx1
    refine hK.out _ _ (HX1.out) (fun hHeld => ?_)
    clear hK K
    try simp only [Act.put, List.setIfInBounds_toArray, List.set_cons_zero, List.set_cons_succ]
    refine wpAnyH_take (i := 6) (oi := { dst := some 13, op := Op.binOp BinOp.add 9 (Operand.tmp 9) (Operand.tmp 12) 9, type := 9, pos := "tuple.go:35", after := #[{ on := 2, ground := Ground.data }, { on := 5, ground := Ground.data }], guard := none }) (v := .string C1) rfl (by kernel_rfl) (by kernel_rfl) (by kernel_rfl) (fun _ _ _ h => h) (Or.inl ⟨by rfl, fun w' hSw => by clear hSw; go_simp⟩) (by assumption) ?_
    simp only [Act.put, List.setIfInBounds_toArray, List.set_cons_zero, List.set_cons_succ]
    refine wpAnyH_ready (rs := [9]) (by kernel_rfl) (by simp) ?_
    refine AllReadyH.cons (o := { dst := some 16, op := Op.call { callee := Callee.value (Operand.func 52), args := #[Operand.tmp 15, Operand.const (Value.int IntKind.i64 2)], argTypes := #[3, 3] }, type := 9, pos := "tuple.go:35", after := #[{ on := 8, ground := Ground.data }, { on := 5, ground := Ground.chain }], guard := none }) rfl (fun K hK => ?_) (AllReadyH.nil)
    go_simp
    refine (HG2.out _).mono ?_
    rintro e x2 ⟨rfl, hx2⟩
    have HX2 := hide (o2 HX1.out hx2)
    have HS := hide (HS.out.more hx2)
    clear hx2
    refine hK.out _ _ (HX2.out) (fun hHeld => ?_)
    clear hK K
    try simp only [Act.put, List.setIfInBounds_toArray, List.set_cons_zero, List.set_cons_succ]
    refine wpAnyH_take (i := 10) (oi := { dst := some 17, op := Op.binOp BinOp.add 9 (Operand.tmp 13) (Operand.tmp 16) 9, type := 9, pos := "tuple.go:35", after := #[{ on := 6, ground := Ground.data }, { on := 9, ground := Ground.data }], guard := none }) (v := .string C2) rfl (by kernel_rfl) (by kernel_rfl) (by kernel_rfl) (fun _ _ _ h => h) (Or.inl ⟨by rfl, fun w' hSw => by clear hSw; go_simp⟩) (by assumption) ?_
    simp only [Act.put, List.setIfInBounds_toArray, List.set_cons_zero, List.set_cons_succ]
    refine wpAnyH_ready (rs := [16]) (by kernel_rfl) (by simp) ?_
    refine AllReadyH.cons (o := { dst := some 23, op := Op.call { callee := Callee.value (Operand.func 49), args := #[Operand.tmp 22], argTypes := #[28] }, type := 9, pos := "tuple.go:35", after := #[{ on := 15, ground := Ground.data }, { on := 9, ground := Ground.chain }], guard := none }) rfl (fun K hK => ?_) (AllReadyH.nil)
    go_simp
    refine (HG3.out _ W0.heap.size HS.out).mono ?_
    rintro e x3 ⟨rfl, hx3⟩
    have HX3 := hide (o2 HX2.out hx3)
    clear hx3
    refine hK.out _ _ (HX3.out) (fun hHeld => ?_)
    clear hK K
    try simp only [Act.put, List.setIfInBounds_toArray, List.set_cons_zero, List.set_cons_succ]
    refine wpAnyH_take (i := 17) (oi := { dst := some 24, op := Op.binOp BinOp.add 9 (Operand.tmp 17) (Operand.tmp 23) 9, type := 9, pos := "tuple.go:35", after := #[{ on := 10, ground := Ground.data }, { on := 16, ground := Ground.data }], guard := none }) (v := .string C3) rfl (by kernel_rfl) (by kernel_rfl) (by kernel_rfl) (fun _ _ _ h => h) (Or.inl ⟨by rfl, fun w' hSw => by clear hSw; go_simp⟩) (by assumption) ?_
    simp only [Act.put, List.setIfInBounds_toArray, List.set_cons_zero, List.set_cons_succ]
    refine wpAnyH_take (i := 18) (oi := { dst := some 2, op := Op.assign (Operand.tmp 24), type := 9, pos := "tuple.go:35", after := #[{ on := 17, ground := Ground.data }, { on := 16, ground := Ground.chain }, { on := 0, ground := Ground.phase }, { on := 1, ground := Ground.phase }, { on := 2, ground := Ground.phase }, { on := 3, ground := Ground.phase }, { on := 4, ground := Ground.phase }, { on := 5, ground := Ground.phase }, { on := 6, ground := Ground.phase }, { on := 7, ground := Ground.phase }, { on := 8, ground := Ground.phase }, { on := 9, ground := Ground.phase }, { on := 10, ground := Ground.phase }, { on := 11, ground := Ground.phase }, { on := 12, ground := Ground.phase }, { on := 13, ground := Ground.phase }, { on := 14, ground := Ground.phase }, { on := 15, ground := Ground.phase }, { on := 16, ground := Ground.phase }, { on := 17, ground := Ground.phase }], guard := none }) (v := .string C3) rfl (by kernel_rfl) (by kernel_rfl) (by kernel_rfl) (fun _ _ _ h => h) (Or.inl ⟨by rfl, fun w' hSw => by clear hSw; go_simp⟩) (by assumption) ?_
    simp only [Act.put, List.setIfInBounds_toArray, List.set_cons_zero, List.set_cons_succ]
    refine wpAnyH_take (i := 19) (oi := { dst := some 3, op := Op.assign (Operand.const (Value.int IntKind.i64 0)), type := 53, pos := "tuple.go:35", after := #[{ on := 18, ground := Ground.chain }, { on := 0, ground := Ground.phase }, { on := 1, ground := Ground.phase }, { on := 2, ground := Ground.phase }, { on := 3, ground := Ground.phase }, { on := 4, ground := Ground.phase }, { on := 5, ground := Ground.phase }, { on := 6, ground := Ground.phase }, { on := 7, ground := Ground.phase }, { on := 8, ground := Ground.phase }, { on := 9, ground := Ground.phase }, { on := 10, ground := Ground.phase }, { on := 11, ground := Ground.phase }, { on := 12, ground := Ground.phase }, { on := 13, ground := Ground.phase }, { on := 14, ground := Ground.phase }, { on := 15, ground := Ground.phase }, { on := 16, ground := Ground.phase }, { on := 17, ground := Ground.phase }, { on := 18, ground := Ground.phase }], guard := none }) (v := .int .i64 0) rfl (by kernel_rfl) (by kernel_rfl) (by kernel_rfl) (fun _ _ _ h => h) (Or.inl ⟨by rfl, fun w' hSw => by clear hSw; go_simp⟩) (by assumption) ?_
    simp only [Act.put, List.setIfInBounds_toArray, List.set_cons_zero, List.set_cons_succ]
    refine wpAnyH_done (by kernel_rfl) ?_ _
    refine NoPanic.normal ?_
    rw [Exit.then]
    go_wp2_with fail
    go_ret2
    exact ⟨by simp [HE.out], o2 HO.out HX3.out⟩
/-- What Encode answers. -/
def Tu.out (t : Tu) : List UInt8 := if t.ok then t.enc else []
def Tu.err (t : Tu) : Int := if t.ok then 0 else 110
theorem uencode_any (t : Tu) (w : World) (h0 : -9223372036854775808 ≤ t.xmin ∧ t.xmin < 9223372036854775808) (h1 : -9223372036854775808 ≤ t.xmax ∧ t.xmax < 9223372036854775808) :
    Calls Tryz.prog 21 #[t.agg] w fun e w' => e = .returned (.tuple #[.string (str t.out), .int .i64 t.err]) ∧ Only (fun _ => False) w w' := by
  unfold Tu.out Tu.err
  cases h : t.ok
  · exact uencode_bad t w h0 h1 h
  · exact uencode_ok t w h
end Go.Proofs.YtpnbhddmdfcjdaaGreat
namespace Go.Proofs.YtpnbhddmdfcjdaaGreat
open Go.RowKit Go.Maps
/-- An element's cells: so many, one value each. -/
structure Lyt (α : Type) where
  c : Nat
  e : α → List Value
  len : ∀ x, (e x).length = c
  one : ∀ x, ∀ u ∈ e x, u.oneCell' = true
theorem Lyt.length {α : Type} (E : Lyt α) (L : List α) : (L.flatMap E.e).length = L.length * E.c := by
  induction L with
  | nil => simp
  | cons x L ih => rw [List.flatMap_cons, List.length_append, ih, E.len, List.length_cons, Nat.add_mul]; omega
theorem Lyt.ones {α : Type} (E : Lyt α) (L : List α) : ∀ u ∈ L.flatMap E.e, u.oneCell' = true := by
  intro u hu
  obtain ⟨x, _, hx⟩ := List.mem_flatMap.1 hu
  exact E.one x u hx
theorem Lyt.get {α : Type} (E : Lyt α) {L : List α} {j i : Nat} (hj : j < L.length) (hi : i < E.c) : (L.flatMap E.e)[j * E.c + i]? = (E.e L[j])[i]? := by
  have e : L = L.take j ++ L[j] :: L.drop (j + 1) := by rw [← List.drop_eq_getElem_cons hj, List.take_append_drop]
  have e2 : L.flatMap E.e = (L.take j).flatMap E.e ++ (E.e L[j] ++ (L.drop (j + 1)).flatMap E.e) := by
    conv => lhs; rw [e]
    rw [List.flatMap_append, List.flatMap_cons]
  have hl : ((L.take j).flatMap E.e).length = j * E.c := by rw [E.length, List.length_take]; rw [Nat.min_eq_left (by omega)]
  rw [e2, List.getElem?_append_right (by omega), hl, List.getElem?_append_left (by rw [E.len]; omega)]
  congr 1
  omega
/-- A row that the value v owns, in a block from base on. -/
def GRow {α : Type} (E : Lyt α) (ty : TypeId) (w : World) (base : Nat) (v : Value) (L : List α) : Prop := w.ownsRow base ty E.c v L.length (L.flatMap E.e)
section
variable {α : Type} {E : Lyt α} {ty : TypeId}
theorem GRow.nil (w : World) (base : Nat) : GRow E ty w base (.slice none 0 0) [] := ⟨by simp, .inl ⟨rfl, rfl⟩⟩
theorem GRow.kept {S : Nat → Prop} {w w' : World} {base : Nat} {v : Value} {L : List α} (h : GRow E ty w base v L) (ho : Only S w w') (hS : ∀ k, v.ownBlock = some k → ¬ S k) : GRow E ty w' base v L := by
  obtain ⟨h1, h2⟩ := h
  refine ⟨h1, ?_⟩
  rcases h2 with h2 | ⟨g, cap, cur, hv, hg, hh, r⟩
  · exact .inl h2
  · subst hv
    exact .inr ⟨g, cap, cur, rfl, hg, by rw [ho.block g (Array.getElem?_eq_some_iff.1 hh).1 (hS g rfl)]; exact hh, r⟩
theorem GRow.more {w w' : World} {base : Nat} {v : Value} {L : List α} (h : GRow E ty w base v L) (ho : Only (fun _ => False) w w') : GRow E ty w' base v L := h.kept ho (fun _ _ => id)
theorem GRow.low {w : World} {base : Nat} {v : Value} {L : List α} (h : GRow E ty w base v L) : ∀ k, v.ownBlock = some k → base ≤ k ∧ k < w.heap.size := fun k hk => World.ownsRow.lt h k hk
theorem GRow.base {w : World} {b b' : Nat} {v : Value} {L : List α} (h : GRow E ty w b v L) (hb : b' ≤ b) : GRow E ty w b' v L := by
  obtain ⟨h1, h2⟩ := h
  refine ⟨h1, ?_⟩
  rcases h2 with h2 | ⟨g, cap, cur, hv, hg, r⟩
  · exact .inl h2
  · exact .inr ⟨g, cap, cur, hv, Nat.le_trans hb hg, r⟩
theorem GRow.form {w : World} {base : Nat} {v : Value} {L : List α} (h : GRow E ty w base v L) : ∃ ao cp, v = .slice ao L.length cp := by
  rcases h.2 with ⟨rfl, h0⟩ | ⟨g, cap, cur, rfl, _⟩
  · exact ⟨none, 0, by rw [h0]⟩
  · exact ⟨_, _, rfl⟩
/-- What a row's slice looks like: nil, or the head of its block. -/
theorem GRow.head {w : World} {base cp : Nat} {ao : Option Addr} {L : List α} (h : GRow E ty w base (.slice ao L.length cp) L) : (ao = none ∧ L = [] ∧ cp = 0) ∨ ∃ g, ao = some ⟨g, 0, none⟩ ∧ base ≤ g ∧ g < w.heap.size ∧ L.length ≤ cp ∧ cp ≤ maxLen ∧ (∀ i, w.frozen? ⟨g, i, none⟩ = false) ∧ ∀ i u, (L.flatMap E.e)[i]? = some u → w.cell? ⟨g, i, none⟩ = some u := by
  have h' := h
  rcases h.2 with ⟨e, h0⟩ | ⟨g, cap, cur, e, hb, hh, hc, hm, _, _⟩
  · injection e with e1 e2 e3
    exact .inl ⟨e1, List.eq_nil_of_length_eq_zero e2, e3⟩
  · injection e with e1 e2 e3
    subst e1
    subst e3
    refine .inr ⟨g, rfl, hb, (Array.getElem?_eq_some_iff.1 hh).1, hc, hm, ?_, fun i u hu => ?_⟩
    · simp [World.frozen?, hh]
    · have := World.ownsRow.cells h' (g := g) rfl i u hu
      rwa [show (⟨g, 0, none⟩ : Addr).add i = ⟨g, i, none⟩ from by rw [add_at]; simp] at this
theorem GRow.at_ {w : World} {base cp : Nat} {ao : Option Addr} {L : List α} (h : GRow E ty w base (.slice ao L.length cp) L) {j : Nat} (hj : j < L.length) : ∃ g, ao = some ⟨g, 0, none⟩ ∧ base ≤ g ∧ g < w.heap.size ∧ L.length ≤ cp ∧ ∀ i u, i < E.c → (E.e L[j])[i]? = some u → w.cell? ⟨g, j * E.c + i, none⟩ = some u := by
  rcases h.head with ⟨_, e, _⟩ | ⟨g, e, h1, h2, h3, _, _, h4⟩
  · subst e; simp at hj
  · exact ⟨g, e, h1, h2, h3, fun i u hi hu => h4 _ u (by rw [E.get hj hi]; exact hu)⟩
/-- What is appended: so many elements from an address on. -/
def GSrc (E : Lyt α) (w : World) (ao : Option Addr) (m : Nat) (N : List α) : Prop :=
  N.length = m ∧ ((ao = none ∧ m = 0) ∨ ∃ a, ao = some a ∧ ∀ j u, (N.flatMap E.e)[j]? = some u → w.cell? (a.add j) = some u)
theorem GSrc.new (w : World) (x : α) (t : TypeId) : GSrc E (w.alloc (.cells (E.e x).toArray t)) (some ⟨w.heap.size, 0, none⟩) 1 [x] := by
  refine ⟨rfl, .inr ⟨_, rfl, fun j u hu => ?_⟩⟩
  have hu' : (E.e x)[j]? = some u := by simpa using hu
  rw [add_at]
  have hj := (List.getElem?_eq_some_iff.1 hu').1
  simp only [World.cell?, World.alloc]
  simpa using hu'
theorem own_grownE (w : World) {base : Nat} {e : TypeId} {n m old c : Nat} {z : Value} {xs news : List Value} (hz : z.cells.size = c) (hx : xs.length = n * c) (hl : news.length = m * c) (h63 : n + m ≤ maxLen) (hbase : base ≤ w.heap.size) (row : Option Nat) :
    (w.drew.alloc (.cells (xs.toArray ++ news.toArray ++ Builtin.zeroCells z.cells (grownCap w (n + m) old e - (n + m))) e)).ownsRow base e c (.slice (some ⟨w.heap.size, 0, none⟩) (n + m) (grownCap w (n + m) old e)) (n + m) (xs ++ news) ∧
    w.grownBy (w.drew.alloc (.cells (xs.toArray ++ news.toArray ++ Builtin.zeroCells z.cells (grownCap w (n + m) old e - (n + m))) e)) row := by
  have hge := grownCap_ge w (n + m) old e
  have hcm : grownCap w (n + m) old e ≤ maxLen := grownCap_le_maxLen w (n + m) old e h63
  have hlen : (xs ++ news).length = (n + m) * c := by rw [List.length_append, hx, hl, Nat.add_mul]
  refine ⟨⟨hlen, .inr ⟨w.heap.size, _, _, rfl, hbase, heap_alloc_new w.drew _, hge, hcm, ?_, ?_⟩⟩, ⟨rfl, rfl, rfl, by simp, fun k hk _ => Below.heap_alloc w.drew _ k hk⟩⟩
  · simp only [Array.size_append, List.size_toArray, size_zeroCells, hz, hx, hl]
    rw [← Nat.add_mul, ← Nat.add_mul]
    congr 1
    omega
  · simp only [Array.toList_append, List.append_assoc]
    rw [← List.append_assoc, ← hlen]
    exact List.take_left
theorem grow_append {w : World} {base : Nat} {v : Value} {L N : List α} {ao : Option Addr} {m : Nat} {t : TypeId} {z : Value} {bytes : Nat} (ht : Tryz.prog.underlying t = some (.slice ty)) (hinf : (Tryz.prog.info? ty).map (fun i => (i.zero, i.size, i.bytes)) = some (some z, E.c, bytes)) (hzs : z.cells.size = E.c)
    (h : GRow E ty w base v L) (hs : GSrc E w ao m N) (hn : (L.length + m + (L.length + m) / 4 + 512) * bytes ≤ 281474976710656) (hn2 : L.length + m ≤ maxLen) (hb : base ≤ w.heap.size) (tr : TypeId) (c : Nat) :
    ∃ v' w', (Builtin.append_ #[t, t] tr #[v, .slice ao m c]).run Tryz.prog w = .ok v' w' ∧ GRow E ty w' base v' (L ++ N) ∧ w.grownBy w' v.ownBlock ∧ (v'.ownBlock = v.ownBlock ∨ v'.ownBlock = some w.heap.size) := by
  obtain ⟨i0, hi, hz0, hz1, hz2⟩ := info_parts hinf
  obtain ⟨hl, h0 | ⟨a, rfl, hc⟩⟩ := hs
  · obtain ⟨rfl, rfl⟩ := h0
    have hN : N = [] := List.eq_nil_of_length_eq_zero hl
    subst hN
    refine ⟨v, w, ?_, by rw [List.append_nil]; exact h, ⟨rfl, rfl, rfl, Nat.le_refl _, fun _ _ _ => rfl⟩, .inl rfl⟩
    rcases h.2 with ⟨rfl, _⟩ | ⟨g, cap, cur, rfl, _, _, hle, _⟩
    · simp [Builtin.append_, run_underlying ht, sizeOf, typeInfo, hi, Builtin.lenOf, Builtin.firstCells]
    · simp [Builtin.append_, run_underlying ht, sizeOf, typeInfo, hi, Builtin.lenOf, Builtin.firstCells, storeCells, hle]
  · have h63 : L.length + m ≤ maxLen := hn2
    have hlN : (N.flatMap E.e).length = m * i0.size := by rw [E.length, hl, hz1]
    have hLN : (L ++ N).length = L.length + m := by rw [List.length_append, hl]
    have hm63 : ((L.length + m : Nat) : Int) ≤ 9223372036854775807 := by unfold maxLen at h63; omega
    have grn : ∀ old, old < L.length + m → Builtin.nextslicecap (L.length + m) old * i0.bytes ≤ 281474976710656 := fun old ho => by
      rw [hz2]
      exact Nat.le_trans (Nat.mul_le_mul_right _ (next_le ho)) hn
    have fold : ∀ w' v', w'.ownsRow base ty E.c v' (L.length + m) (L.flatMap E.e ++ N.flatMap E.e) → GRow E ty w' base v' (L ++ N) := fun w' v' ho => by
      unfold GRow
      rw [hLN, List.flatMap_append]
      exact ho
    rcases h.2 with ⟨rfl, e0⟩ | ⟨g, cap, cur, rfl, hbg, hg, hnc, hcm, hcs, htake⟩
    · have hL : L = [] := List.eq_nil_of_length_eq_zero e0
      subst hL
      by_cases hm : m = 0
      · subst hm
        have hN : N = [] := List.eq_nil_of_length_eq_zero hl
        subst hN
        refine ⟨.slice none 0 0, w, ?_, h, ⟨rfl, rfl, rfl, Nat.le_refl _, fun _ _ _ => rfl⟩, .inl rfl⟩
        simp [Builtin.append_, run_underlying ht, sizeOf, typeInfo, hi, Builtin.lenOf, Builtin.firstCells, loadCells, loadCellsFrom]
      · have h48 : m * i0.bytes ≤ 281474976710656 := by
          rw [hz2]
          refine Nat.le_trans (Nat.mul_le_mul_right _ ?_) hn
          simp
          omega
        have hr := run_append_nil (P := Tryz.prog) w t tr ty i0 z ht hi hz0 a m c (N.flatMap E.e) hlN hc (by omega) (by simpa using hm63) h48
        have hgr := own_grownE w (base := base) (e := ty) (n := 0) (m := m) (old := 0) (xs := []) hzs (by simp) (by rw [E.length, hl]) (by simpa using h63) hb (Value.ownBlock (.slice none 0 0))
        simp only [Nat.zero_add, List.nil_append, Array.empty_append] at hgr ⊢
        have hf := fold _ _ (by simpa using hgr.1)
        simp only [List.nil_append] at hf
        exact ⟨_, _, hr, hf, hgr.2, .inr rfl⟩
    · by_cases hrm : L.length + m ≤ cap
      · have hfit : L.length * i0.size + (N.flatMap E.e).length ≤ cur.size := by
          rw [hlN, hz1, hcs, ← Nat.add_mul]
          exact Nat.mul_le_mul_right _ hrm
        have hr := run_append_room (P := Tryz.prog) w t tr ty i0 ht hi g L.length cap cur hg a m c (N.flatMap E.e) hlN hc (E.ones N) hrm hfit
        rw [hz1] at hr hfit
        refine ⟨_, _, hr, fold _ _ ⟨by rw [List.length_append, E.length, E.length, hl, Nat.add_mul], .inr ⟨g, cap, _, rfl, hbg, setRow_heap w g cur _ ty _ hg, hrm, hcm, ?_, ?_⟩⟩, ⟨rfl, rfl, rfl, by simp, fun k _ hk => setRow_other w g k _ (fun e => hk (by simp [Value.ownBlock, e]))⟩, .inl rfl⟩
        · simp only [List.size_toArray, List.length_append, List.length_take, List.length_drop, Array.length_toList]
          omega
        · have hlen : (L.flatMap E.e ++ N.flatMap E.e).length = (L.length + m) * E.c := by rw [List.length_append, E.length, E.length, hl, Nat.add_mul]
          rw [htake, ← hlen]
          exact List.take_left
      · have hr := run_append_grow (P := Tryz.prog) w t tr ty i0 z ht hi hz0 ⟨g, 0, none⟩ L.length cap (L.flatMap E.e) (by rw [hz1, E.length]) (World.ownsRow.cells h (g := g) rfl) a m c (N.flatMap E.e) hlN hc (by omega) hm63 (grn cap (by omega))
        have hgr := own_grownE w (base := base) (e := ty) (n := L.length) (m := m) (old := cap) (xs := L.flatMap E.e) hzs (E.length L) (by rw [E.length, hl]) h63 hb (Value.ownBlock (.slice (some ⟨g, 0, none⟩) L.length cap))
        exact ⟨_, _, hr, fold _ _ hgr.1, hgr.2, .inr rfl⟩
theorem grow_one {w : World} {base : Nat} {v : Value} {L : List α} {t : TypeId} {z : Value} {bytes : Nat} (ht : Tryz.prog.underlying t = some (.slice ty)) (hinf : (Tryz.prog.info? ty).map (fun i => (i.zero, i.size, i.bytes)) = some (some z, E.c, bytes)) (hzs : z.cells.size = E.c)
    (h : GRow E ty w base v L) (x : α) (hn : (L.length + 1 + (L.length + 1) / 4 + 512) * bytes ≤ 281474976710656) (hn2 : L.length + 1 ≤ maxLen) (hb : base ≤ w.heap.size) (tr : TypeId) (c : Nat) :
    ∃ v' w', (Builtin.append_ #[t, t] tr #[v, .slice (some ⟨w.heap.size, 0, none⟩) 1 c]).run Tryz.prog (w.alloc (.cells (E.e x).toArray ty)) = .ok v' w' ∧ GRow E ty w' base v' (L ++ [x]) ∧ Only (fun i => some i = v.ownBlock) w w' ∧ (v'.ownBlock = v.ownBlock ∨ ∃ k, v'.ownBlock = some k ∧ w.heap.size ≤ k) := by
  obtain ⟨v', w', h1, h2, h3, h4⟩ := grow_append ht hinf hzs (h.more (Only.alloc (fun _ => False) w (.cells (E.e x).toArray ty))) (GSrc.new w x ty) hn hn2 (by simp; omega) tr c
  refine ⟨v', w', h1, h2, (Only.alloc (fun i => some i = v.ownBlock) w _).trans (Only.grown (S := fun i => some i = v.ownBlock) h3 (fun b hb => hb.symm)) (fun _ _ e => e), ?_⟩
  rcases h4 with h4 | h4
  · exact .inl h4
  · exact .inr ⟨_, h4, by simp⟩
end
end Go.Proofs.YtpnbhddmdfcjdaaGreat
namespace Go.Proofs.YtpnbhddmdfcjdaaGreat
open Go.RowKit
/-- Where an entry stands, or -1. -/
def idxE (es : List En) (e : En) : Int := if e ∈ es then (plE es e : Int) else -1
theorem plE_at {es : List En} (hr : Rise es) (i : Nat) (h : i < es.length) : plE es es[i] = i := by
  refine plE_of (Nat.le_of_lt h) ?_ (drop_nlt hr i h (En.lt_irrefl _))
  intro z hz
  obtain ⟨k, hk, rfl⟩ := List.mem_iff_getElem.1 hz
  rw [List.length_take] at hk
  rw [List.getElem_take]
  exact List.pairwise_iff_getElem.1 hr k i (by omega) h (by omega)
set_option maxHeartbeats 1600000 in
theorem indexE_any (w : World) (B n C : Nat) (A : Option Addr) (es : List En) (e : En) (hE : Els w B A es) (hn : es.length = n) (hl : n ≤ 8796093021952) (hr : Rise es) :
    Calls Tryz.prog 176 #[.slice A n C, e.agg] w fun x w' => x = .returned (.int .i64 (idxE es e)) ∧ Only (fun _ => False) w w' := by
  have HE := hide hE
  have HN := hide hn
  have HR := hide hr
  have HV := hide (Ev.new w e)
  have HO := hide (onlyA w (.cells #[.string e.key, .int .i64 e.page, .int .i64 e.slot] 74))
  clear hE hn hr
  unfold En.agg
  go_enter Tryz.func176, Tryz.ntmps176
  go_upto_region 2 with fail
  obtain ⟨W0, hW0⟩ : ∃ x, w.alloc (.cells #[.string e.key, .int .i64 e.page, .int .i64 e.slot] 74) = x := ⟨_, rfl⟩
  rw [hW0] at HV HO ⊢
  clear hW0
  go_loopw [8] (fun x wr => ∃ (j : Nat), x = .int .i64 (j : Int) ∧ j ≤ n ∧ Hid (∀ z ∈ es.take j, z ≠ e) ∧ Hid (Only (fun _ => False) W0 wr)) (fun x _ => n - (intOf x).toNat)
  case atStart => exact ⟨0, rfl, Nat.zero_le _, hide (fun z hz => by simp at hz), hide (Only.refl _ _)⟩
  case round =>
    obtain ⟨j, rfl, hjn, HI, HW⟩ := hrel
    by_cases hlt : j < n
    · have hk : (j : Int) < (n : Int) := by omega
      have hk2 : ¬ (n : Int) ≤ (j : Int) := by omega
      have hje : j < es.length := by have := HN.out; omega
      obtain ⟨o, rfl, hb⟩ := (HE.out.more (o2 HO.out HW.out)).of j hje
      have HB := hide hb
      have HV1 := hide (HV.out.more HW.out)
      have hq := eqE_run e es[j]
      by_cases hc : e = es[j]
      · have HX : Hid (idxE es e = (j : Int)) := by
          unfold Hid idxE
          rw [hc, if_pos (List.getElem_mem _), plE_at HR.out j hje]
        have hd : decide (e = es[j]) = true := decide_eq_true hc
        rw [hd] at hq
        obtain ⟨f, hf⟩ : ∃ f, es[j] = f := ⟨_, rfl⟩
        rw [hf] at HB hq
        clear hf hb hc hd
        go_upto_region 4 with fail
        -- {r4a
        refine wp_region_noPanic ?_
        refine wp_region_held_drew (S := fun W => Only (fun _ => False) wr W) (by kernel_rfl) (Only.drew _ _) (fun hHeld => ?_)
        refine wpAnyH_take (i := 0) (oi := { dst := some 11, op := Op.load 74 (Operand.tmp 3), type := 74, pos := "slices.go:98", after := #[], guard := none }) (v := .agg #[.string e.key, .int .i64 e.page, .int .i64 e.slot]) rfl (by kernel_rfl) (by kernel_rfl) (by kernel_rfl) (fun _ _ _ h => h) (yieldsIf_load_ev (by rfl) _ rfl rfl (fun W hW => HV1.out.more hW)) (by assumption) ?_
        simp only [Act.put, List.setIfInBounds_toArray, List.set_cons_zero, List.set_cons_succ]
        refine wpAnyH_take (i := 1) (oi := { dst := some 12, op := Op.move (Operand.tmp 0), type := 37, pos := "slices.go:98", after := #[], guard := none }) (v := .slice (some ⟨B, o, none⟩) n C) rfl (by kernel_rfl) (by kernel_rfl) (by kernel_rfl) (fun _ _ _ h => h) (Or.inl ⟨by rfl, fun w' hSw => by clear hSw; go_simp⟩) (by assumption) ?_
        simp only [Act.put, List.setIfInBounds_toArray, List.set_cons_zero, List.set_cons_succ]
        refine wpAnyH_take (i := 2) (oi := { dst := some 13, op := Op.move (Operand.tmp 5), type := 3, pos := "slices.go:98", after := #[], guard := none }) (v := .int .i64 (j : Int)) rfl (by kernel_rfl) (by kernel_rfl) (by kernel_rfl) (fun _ _ _ h => h) (Or.inl ⟨by rfl, fun w' hSw => by clear hSw; go_simp⟩) (by assumption) ?_
        simp only [Act.put, List.setIfInBounds_toArray, List.set_cons_zero, List.set_cons_succ]
        refine wpAnyH_take (i := 3) (oi := { dst := some 14, op := Op.indexAddr 37 (Operand.tmp 12) (Operand.tmp 13), type := 0, pos := "slices.go:98", after := #[{ on := 1, ground := Ground.data }, { on := 2, ground := Ground.data }], guard := none }) (v := .pointer (some ⟨B, o + j * 3, none⟩)) rfl (by kernel_rfl) (by kernel_rfl) (by kernel_rfl) (fun _ _ _ h => h) (Or.inl ⟨by rfl, fun w' hSw => by clear hSw; go_simp⟩) (by assumption) ?_
        simp only [Act.put, List.setIfInBounds_toArray, List.set_cons_zero, List.set_cons_succ]
        refine wpAnyH_take (i := 4) (oi := { dst := some 15, op := Op.load 74 (Operand.tmp 14), type := 74, pos := "slices.go:98", after := #[{ on := 3, ground := Ground.data }], guard := none }) (v := .agg #[.string f.key, .int .i64 f.page, .int .i64 f.slot]) rfl (by kernel_rfl) (by kernel_rfl) (by kernel_rfl) (fun _ _ _ h => h) (yieldsIf_load_eb (by rfl) _ rfl rfl (fun W hW => HB.out.more hW)) (by assumption) ?_
        simp only [Act.put, List.setIfInBounds_toArray, List.set_cons_zero, List.set_cons_succ]
        refine wpAnyH_take (i := 5) (oi := { dst := some 16, op := Op.binOp BinOp.eql 74 (Operand.tmp 11) (Operand.tmp 15) 74, type := 4, pos := "slices.go:98", after := #[{ on := 0, ground := Ground.data }, { on := 4, ground := Ground.data }], guard := none }) (v := .bool true) rfl (by kernel_rfl) (by kernel_rfl) (by kernel_rfl) (fun _ _ _ h => h) (Or.inl ⟨by rfl, fun w' hSw => by clear hSw; go_simp⟩) (by assumption) ?_
        simp only [Act.put, List.setIfInBounds_toArray, List.set_cons_zero, List.set_cons_succ]
        refine wpAnyH_done (by kernel_rfl) ?_ _
        refine NoPanic.normal ?_
        -- r4a}
        go_wp2_with fail
        go_ret
        exact ⟨by rw [HX.out]; rfl, o2 HO.out (o2 HW.out (Only.drew _ _))⟩
      · have HI2 : Hid (∀ z ∈ es.take (j + 1), z ≠ e) := by
          intro z hz
          rw [List.take_succ_eq_append_getElem hje] at hz
          rcases List.mem_append.1 hz with hz | hz
          · exact HI.out z hz
          · have : z = es[j] := by simpa using hz
            rw [this]
            exact fun x => hc x.symm
        have hd : decide (e = es[j]) = false := decide_eq_false hc
        rw [hd] at hq
        obtain ⟨f, hf⟩ : ∃ f, es[j] = f := ⟨_, rfl⟩
        rw [hf] at HB hq
        clear hf hb hc hd
        go_upto_region 4 with fail
        -- {r4b
        refine wp_region_noPanic ?_
        refine wp_region_held_drew (S := fun W => Only (fun _ => False) wr W) (by kernel_rfl) (Only.drew _ _) (fun hHeld => ?_)
        refine wpAnyH_take (i := 0) (oi := { dst := some 11, op := Op.load 74 (Operand.tmp 3), type := 74, pos := "slices.go:98", after := #[], guard := none }) (v := .agg #[.string e.key, .int .i64 e.page, .int .i64 e.slot]) rfl (by kernel_rfl) (by kernel_rfl) (by kernel_rfl) (fun _ _ _ h => h) (yieldsIf_load_ev (by rfl) _ rfl rfl (fun W hW => HV1.out.more hW)) (by assumption) ?_
        simp only [Act.put, List.setIfInBounds_toArray, List.set_cons_zero, List.set_cons_succ]
        refine wpAnyH_take (i := 1) (oi := { dst := some 12, op := Op.move (Operand.tmp 0), type := 37, pos := "slices.go:98", after := #[], guard := none }) (v := .slice (some ⟨B, o, none⟩) n C) rfl (by kernel_rfl) (by kernel_rfl) (by kernel_rfl) (fun _ _ _ h => h) (Or.inl ⟨by rfl, fun w' hSw => by clear hSw; go_simp⟩) (by assumption) ?_
        simp only [Act.put, List.setIfInBounds_toArray, List.set_cons_zero, List.set_cons_succ]
        refine wpAnyH_take (i := 2) (oi := { dst := some 13, op := Op.move (Operand.tmp 5), type := 3, pos := "slices.go:98", after := #[], guard := none }) (v := .int .i64 (j : Int)) rfl (by kernel_rfl) (by kernel_rfl) (by kernel_rfl) (fun _ _ _ h => h) (Or.inl ⟨by rfl, fun w' hSw => by clear hSw; go_simp⟩) (by assumption) ?_
        simp only [Act.put, List.setIfInBounds_toArray, List.set_cons_zero, List.set_cons_succ]
        refine wpAnyH_take (i := 3) (oi := { dst := some 14, op := Op.indexAddr 37 (Operand.tmp 12) (Operand.tmp 13), type := 0, pos := "slices.go:98", after := #[{ on := 1, ground := Ground.data }, { on := 2, ground := Ground.data }], guard := none }) (v := .pointer (some ⟨B, o + j * 3, none⟩)) rfl (by kernel_rfl) (by kernel_rfl) (by kernel_rfl) (fun _ _ _ h => h) (Or.inl ⟨by rfl, fun w' hSw => by clear hSw; go_simp⟩) (by assumption) ?_
        simp only [Act.put, List.setIfInBounds_toArray, List.set_cons_zero, List.set_cons_succ]
        refine wpAnyH_take (i := 4) (oi := { dst := some 15, op := Op.load 74 (Operand.tmp 14), type := 74, pos := "slices.go:98", after := #[{ on := 3, ground := Ground.data }], guard := none }) (v := .agg #[.string f.key, .int .i64 f.page, .int .i64 f.slot]) rfl (by kernel_rfl) (by kernel_rfl) (by kernel_rfl) (fun _ _ _ h => h) (yieldsIf_load_eb (by rfl) _ rfl rfl (fun W hW => HB.out.more hW)) (by assumption) ?_
        simp only [Act.put, List.setIfInBounds_toArray, List.set_cons_zero, List.set_cons_succ]
        refine wpAnyH_take (i := 5) (oi := { dst := some 16, op := Op.binOp BinOp.eql 74 (Operand.tmp 11) (Operand.tmp 15) 74, type := 4, pos := "slices.go:98", after := #[{ on := 0, ground := Ground.data }, { on := 4, ground := Ground.data }], guard := none }) (v := .bool false) rfl (by kernel_rfl) (by kernel_rfl) (by kernel_rfl) (fun _ _ _ h => h) (Or.inl ⟨by rfl, fun w' hSw => by clear hSw; go_simp⟩) (by assumption) ?_
        simp only [Act.put, List.setIfInBounds_toArray, List.set_cons_zero, List.set_cons_succ]
        refine wpAnyH_done (by kernel_rfl) ?_ _
        refine NoPanic.normal ?_
        -- r4b}
        go_wp2_with fail
        go_roundw
        case rel => exact ⟨j + 1, by go_num, by omega, HI2, hide (o2 HW.out (Only.drew _ _))⟩
        case measure => simp [intOf]; omega
    · have hk : ¬ (j : Int) < (n : Int) := by omega
      have HX : Hid (idxE es e = -1) := by
        unfold Hid idxE
        rw [if_neg]
        intro hm
        have := HN.out
        exact HI.out e (by rw [List.take_of_length_le (by omega)]; exact hm) rfl
      go_wp2_with fail
      go_ret
      exact ⟨by rw [HX.out]; rfl, o2 HO.out HW.out⟩
end Go.Proofs.YtpnbhddmdfcjdaaGreat
