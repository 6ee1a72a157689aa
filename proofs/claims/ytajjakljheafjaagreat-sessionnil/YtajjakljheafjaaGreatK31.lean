/- Parts. -/
import Derived.Test.YtajjakljheafjaaGreatK30
import Derived.Test.YtajjakljheafjaaGreatK26
import Derived.Deep.RegionHeld3
set_option maxRecDepth 100000
namespace Go.Proofs.YtajjakljheafjaaGreat
open Go.RowKit
/-- Where a way goes on: the page, and whether it is here. -/
def Nd.way (X : Nd) (v : Nat) (e : En) : Int × Bool := if byd X.hi e = true then (X.rt, false) else if X.lv = v then (0, true) else (chK X.ks e, false)
set_option maxHeartbeats 3200000 in
theorem way_nd (w : World) (a : Int) (X : Nd) (v : Nat) (e : En) (B cp : Nat) (ao : Option Addr) (hP : Nm w X B ao) (ha : 0 ≤ a ∧ a < 9223372036854775808) (he : e.ok = true) (hv : v ≤ X.lv) :
    Calls Tryz.prog 28 #[.agg #[.int .i64 a, .int .i64 3, .int .i64 X.lv, .int .i64 X.rt, .string (hiB X.hi), .slice ao X.items.length cp], .int .i64 v, e.agg] w fun x w' => x = .returned (.tuple #[.int .i64 (X.way v e).1, .bool (X.way v e).2, .int .i64 0]) ∧ Only (fun _ => False) w w' := by
  have HX := hide (pe_new w (.int .i64 a) (.int .i64 3) (.int .i64 X.lv) (.int .i64 X.rt) (.string (hiB X.hi)) (.slice ao X.items.length cp) e)
  have HCK : Hid (∀ W, Only (fun _ => False) w W → Calls Tryz.prog 52 #[.agg #[.int .i64 a, .int .i64 3, .int .i64 X.lv, .int .i64 X.rt, .string (hiB X.hi), .slice ao X.items.length cp]] W fun x w' => x = .returned (.int .i64 0) ∧ Only (fun _ => False) W w') := fun W ho => check_nd W a X B cp ao (hP.more ho) ha
  have HBY : Hid (∀ W, Only (fun _ => False) w W → Calls Tryz.prog 53 #[.agg #[.int .i64 a, .int .i64 3, .int .i64 X.lv, .int .i64 X.rt, .string (hiB X.hi), .slice ao X.items.length cp], .agg #[.string e.key, .int .i64 e.page, .int .i64 e.slot]] W fun x w' => x = .returned (.tuple #[.bool (byd X.hi e), .int .i64 0]) ∧ Only (fun _ => False) W w') := fun W ho => by
    have h := beyond_nd W a X e B cp ao (hP.more ho)
    unfold byV at h
    rw [if_pos he] at h
    exact h
  have HCH : Hid (0 < X.lv → byd X.hi e = false → ∀ W, Only (fun _ => False) w W → Calls Tryz.prog 54 #[.agg #[.int .i64 a, .int .i64 3, .int .i64 X.lv, .int .i64 X.rt, .string (hiB X.hi), .slice ao X.items.length cp], .agg #[.string e.key, .int .i64 e.page, .int .i64 e.slot]] W fun x w' => x = .returned (.tuple #[.int .i64 (chK X.ks e), .int .i64 0]) ∧ Only (fun _ => False) W w') := fun v0 hb W ho => by
    have h := child_ok W a X.lv X.rt (hiB X.hi) X.hi e B cp ao X.items X.ks ((hP.more ho).ip v0)
    unfold chV at h
    rw [if_pos ⟨he, hb⟩] at h
    exact h
  have hv1 : ¬ (v : Int) < 0 := by omega
  have hv2 : ¬ (X.lv : Int) < (v : Int) := by omega
  obtain ⟨⟨N, T⟩, hNT⟩ : ∃ q, X.way v e = q := ⟨_, rfl⟩
  rw [hNT]
  have HNT := hide hNT
  unfold Nd.way at HNT
  have HLV : Hid (X.lv = v ∨ (0 < X.lv ∧ ¬ X.lv = v)) := by unfold Hid; omega
  clear hP ha he hNT
  obtain ⟨C, hC⟩ : ∃ C, chK X.ks e = C := ⟨_, rfl⟩
  rw [hC] at HCH HNT
  obtain ⟨Y, hY⟩ : ∃ Y, byd X.hi e = Y := ⟨_, rfl⟩
  rw [hY] at HCH HNT HBY
  obtain ⟨R, hR⟩ : ∃ R, (X.rt : Int) = R := ⟨_, rfl⟩
  obtain ⟨h, hh⟩ : ∃ h, hiB X.hi = h := ⟨_, rfl⟩
  obtain ⟨n, hn⟩ : ∃ n, X.items.length = n := ⟨_, rfl⟩
  rw [hR, hh, hn] at HX HCK HBY HCH ⊢
  rw [hR] at HNT
  clear hR hh hn hC hY
  obtain ⟨L, hL⟩ : ∃ L, X.lv = L := ⟨_, rfl⟩
  rw [hL] at HX HCK HBY HCH HNT HLV hv hv2 ⊢
  clear hL
  unfold En.agg
  simp only []
  go_enter Tryz.func28, Tryz.ntmps28
  go_upto_region 1 with fail
  obtain ⟨W0, hW0⟩ : ∃ x, (w.alloc (.cells #[.int .i64 a, .int .i64 3, .int .i64 L, .int .i64 R, .string h, .slice ao n cp] 37)).alloc (.cells #[.string e.key, .int .i64 e.page, .int .i64 e.slot] 89) = x := ⟨_, rfl⟩
  rw [hW0] at HX ⊢
  clear hW0
  obtain ⟨p0, p1, p2, p3, p4, p5, _⟩ := HX.out.1
  go_wp2_with fail
  refine (HCK.out _ HX.out.2.2).mono ?_
  rintro x w1 ⟨rfl, ho⟩
  have HP1 := hide (HX.out.1.more ho)
  have HV1 := hide (HX.out.2.1.more ho)
  have HO1 := hide (o2 HX.out.2.2 ho)
  clear ho p0 p1 p2 p3 p4 p5 HX HCK
  obtain ⟨p0, p1, p2, p3, p4, p5, _⟩ := HP1.out
  obtain ⟨d0, d1, d2, _⟩ := HV1.out
  go_wp2_with fail
  refine (HBY.out _ HO1.out).mono ?_
  rintro x w2 ⟨rfl, ho⟩
  have HP2 := hide (HP1.out.more ho)
  have HV2 := hide (HV1.out.more ho)
  have HO2 := hide (o2 HO1.out ho)
  clear ho p0 p1 p2 p3 p4 p5 d0 d1 d2 HP1 HV1 HO1 HBY
  obtain ⟨p0, p1, p2, p3, p4, p5, _⟩ := HP2.out
  cases Y with
  | true =>
    have HN2 : Hid (N = R ∧ T = false) := by
      have q := HNT.out
      rw [if_pos rfl, Prod.mk.injEq] at q
      exact ⟨q.1.symm, q.2.symm⟩
    clear HNT HCH
    go_wp2_with fail
    go_ret3
    obtain ⟨rfl, rfl⟩ := HN2.out
    exact ⟨rfl, HO2.out⟩
  | false =>
    rw [if_neg (by decide)] at HNT
    rcases HLV.out with q | ⟨q1, q2⟩
    · have HN2 : Hid (N = 0 ∧ T = true) := by
        have z := HNT.out
        rw [if_pos q, Prod.mk.injEq] at z
        exact ⟨z.1.symm, z.2.symm⟩
      clear HNT HCH HLV
      have hq : ((L : Int) == (v : Int)) = true := by rw [q]; simp
      clear q
      go_wp2_with fail
      go_ret3
      obtain ⟨rfl, rfl⟩ := HN2.out
      exact ⟨rfl, HO2.out⟩
    · have HN2 : Hid (N = C ∧ T = false) := by
        have z := HNT.out
        rw [if_neg q2, Prod.mk.injEq] at z
        exact ⟨z.1.symm, z.2.symm⟩
      have HCH2 := hide (HCH.out q1 rfl)
      clear HNT HCH HLV
      have hq : ((L : Int) == (v : Int)) = false := by simpa using (fun z : (L : Int) = (v : Int) => q2 (by omega))
      clear q1 q2
      obtain ⟨d0, d1, d2, _⟩ := HV2.out
      go_wp2_with fail
      refine (HCH2.out _ HO2.out).mono ?_
      rintro x w3 ⟨rfl, ho⟩
      have HO3 := hide (o2 HO2.out ho)
      clear ho
      go_wp2_with fail
      go_ret3
      obtain ⟨rfl, rfl⟩ := HN2.out
      exact ⟨rfl, HO3.out⟩
/-- A leaf's entries. -/
theorem entriesOf_nd (w : World) (a : Int) (X : Nd) (B cp : Nat) (ao : Option Addr) (hP : Nm w X B ao) (ha : 0 ≤ a ∧ a < 9223372036854775808) (hv : X.lv = 0) :
    Calls Tryz.prog 132 #[.agg #[.int .i64 a, .int .i64 3, .int .i64 0, .int .i64 X.rt, .string (hiB X.hi), .slice ao X.items.length cp]] w fun x w' => EnR w w' x X.es := by
  have HP := hide (Pag.new w (.int .i64 a) (.int .i64 3) (.int .i64 0) (.int .i64 X.rt) (.string (hiB X.hi)) (.slice ao X.items.length cp))
  have HO := hide (onlyA w (.cells #[.int .i64 a, .int .i64 3, .int .i64 0, .int .i64 X.rt, .string (hiB X.hi), .slice ao X.items.length cp] 37))
  have HCK : Hid (∀ W, Only (fun _ => False) w W → Calls Tryz.prog 52 #[.agg #[.int .i64 a, .int .i64 3, .int .i64 0, .int .i64 X.rt, .string (hiB X.hi), .slice ao X.items.length cp]] W fun x w' => x = .returned (.int .i64 0) ∧ Only (fun _ => False) W w') := fun W ho => by
    have h := check_nd W a X B cp ao (hP.more ho) ha
    rw [hv, Int.ofNat_zero] at h
    exact h
  have HEN : Hid (∀ W, Only (fun _ => False) w W → Calls Tryz.prog 101 #[.agg #[.int .i64 a, .int .i64 3, .int .i64 0, .int .i64 X.rt, .string (hiB X.hi), .slice ao X.items.length cp]] W fun x w' => EnR W w' x X.es) := fun W ho => entries_ok W a X.rt (hiB X.hi) X.hi B cp ao X.items X.es ((hP.more ho).lp hv)
  clear hP ha hv
  obtain ⟨R, hR⟩ : ∃ R, (X.rt : Int) = R := ⟨_, rfl⟩
  obtain ⟨h, hh⟩ : ∃ h, hiB X.hi = h := ⟨_, rfl⟩
  obtain ⟨n, hn⟩ : ∃ n, X.items.length = n := ⟨_, rfl⟩
  rw [hR, hh, hn] at HP HO HCK HEN ⊢
  clear hR hh hn
  go_enter Tryz.func132, Tryz.ntmps132
  go_upto_region 1 with fail
  obtain ⟨W0, hW0⟩ : ∃ x, w.alloc (.cells #[.int .i64 a, .int .i64 3, .int .i64 0, .int .i64 R, .string h, .slice ao n cp] 37) = x := ⟨_, rfl⟩
  rw [hW0] at HP HO ⊢
  clear hW0
  obtain ⟨p0, p1, p2, p3, p4, p5, _⟩ := HP.out
  go_wp2_with fail
  refine (HCK.out _ HO.out).mono ?_
  rintro x w1 ⟨rfl, ho⟩
  have HP1 := hide (HP.out.more ho)
  have HO1 := hide (o2 HO.out ho)
  clear ho p0 p1 p2 p3 p4 p5 HP HO HCK
  obtain ⟨p0, p1, p2, p3, p4, p5, _⟩ := HP1.out
  go_wp2_with fail
  refine (HEN.out _ HO1.out).mono ?_
  rintro x w2 ⟨A, C, rfl, hE, ho⟩
  have HE2 := hide (hE.base HO1.out.size)
  have HO2 := hide (o2 HO1.out ho)
  clear hE ho
  go_wp2_with fail
  go_ret2
  exact ⟨A, C, rfl, HE2.out, HO2.out⟩
theorem ba_ne0 {t : ByteArray} (h : ¬ t = ⟨#[]⟩) : t.toList.isEmpty = false := by
  rw [ByteArray.toList_eq]
  cases q : t.data.toList with
  | nil => exact absurd (by cases t; simp at q; rw [q]) h
  | cons a l => rfl
/-- Whether a key is below a bound; an empty one bounds nothing. -/
def below (k t : ByteArray) : Bool := decide (t = ⟨#[]⟩) || decide (bl k < bl t)
theorem isBelowB_any (w : World) (k t : ByteArray) : Calls Tryz.prog 133 #[.string k, .string t] w fun x w' => x = .returned (.bool (below k t)) ∧ w' = w := by
  unfold below
  by_cases h : t = ⟨#[]⟩
  · subst h
    go_enter Tryz.func133, Tryz.ntmps133
    go_wp2_with fail
    go_ret
    exact ⟨ret_bool (by simp), rfl⟩
  · have e := ba_neN h
    have e3 := ba_ne0 h
    rw [decide_eq_false h, Bool.false_or, ← bless_lt]
    clear h
    go_enter Tryz.func133, Tryz.ntmps133
    go_wp2_with fail
    go_ret
    exact ⟨rfl, rfl⟩
/-- Whether an entry of a key below a bound may lie beyond a node. -/
def Nd.goOn (X : Nd) (t : ByteArray) : Bool := decide (t = ⟨#[]⟩) || (!decide (X.hi = noE) && decide (bl X.hi.key < bl t))
set_option maxHeartbeats 1600000 in
theorem mayGoOn_nd (w : World) (a l r : Int) (X : Nd) (t : ByteArray) (ao : Option Addr) (n cp : Nat) (lo : En) (hh : X.hi = noE ∨ (X.hi.ok = true ∧ lo.lt X.hi)) :
    Calls Tryz.prog 134 #[.agg #[.int .i64 a, .int .i64 3, .int .i64 l, .int .i64 r, .string (hiB X.hi), .slice ao n cp], .string t] w fun x w' => x = .returned (.bool (X.goOn t)) ∧ Only (fun _ => False) w w' := by
  have HP := hide (Pag.new w (.int .i64 a) (.int .i64 3) (.int .i64 l) (.int .i64 r) (.string (hiB X.hi)) (.slice ao n cp))
  have HO := hide (onlyA w (.cells #[.int .i64 a, .int .i64 3, .int .i64 l, .int .i64 r, .string (hiB X.hi), .slice ao n cp] 37))
  obtain ⟨G, hG⟩ : ∃ G, X.goOn t = G := ⟨_, rfl⟩
  rw [hG]
  have HG := hide hG
  unfold Nd.goOn at HG
  clear hG
  have HD : Hid (∀ W, Calls Tryz.prog 99 #[.string (hiB X.hi)] W fun x w' => x = .returned (.tuple #[.agg #[.string X.hi.key, .int .i64 X.hi.page, .int .i64 X.hi.slot], .int .i64 (if X.hi = noE then 140 else 0)]) ∧ Only (fun _ => False) W w') := fun W => by
    have h := decode_any (hiB X.hi) W
    by_cases z : X.hi = noE
    · have e : hiB X.hi = ⟨#[]⟩ := by rw [z]; rfl
      rw [if_pos z]
      rw [e] at h ⊢
      have q : decE (bl ⟨#[]⟩) = none := by decide
      rw [q] at h
      rw [z]
      exact h
    · rw [if_neg z]
      have o : X.hi.ok = true := by rcases hh with y | y; exact absurd y z; exact y.1
      rw [hiB_ok o] at h ⊢
      rw [show decE (bl X.hi.enc) = some X.hi from decE_lay o] at h
      exact h
  clear hh
  obtain ⟨h, hh⟩ : ∃ h, hiB X.hi = h := ⟨_, rfl⟩
  rw [hh] at HP HO HD ⊢
  clear hh
  by_cases ht : t = ⟨#[]⟩
  · have HG2 : Hid (G = true) := by
      have := HG.out
      rw [decide_eq_true ht, Bool.true_or] at this
      exact this.symm
    subst ht
    clear HG HD
    go_enter Tryz.func134, Tryz.ntmps134
    go_wp2_with fail
    go_ret
    exact ⟨ret_bool HG2.out.symm, HO.out⟩
  · have e := ba_neN ht
    have e3 := ba_ne0 ht
    rw [decide_eq_false ht, Bool.false_or] at HG
    clear ht
    go_enter Tryz.func134, Tryz.ntmps134
    go_upto_region 1 with fail
    obtain ⟨W0, hW0⟩ : ∃ x, w.alloc (.cells #[.int .i64 a, .int .i64 3, .int .i64 l, .int .i64 r, .string h, .slice ao n cp] 37) = x := ⟨_, rfl⟩
    rw [hW0] at HP HO ⊢
    clear hW0
    have p4 := HP.out.c4
    by_cases z : X.hi = noE
    · rw [if_pos z] at HD
      have HG2 : Hid (G = false) := by
        have := HG.out
        rw [decide_eq_true z] at this
        unfold Hid
        simpa using this.symm
      clear HG z
      go_wp2_with fail
      refine (HD.out _).mono ?_
      rintro x w1 ⟨rfl, ho⟩
      have HO1 := hide (o2 HO.out ho)
      clear ho
      go_wp2_with fail
      go_ret
      exact ⟨ret_bool HG2.out.symm, o2 HO1.out (onlyA _ _)⟩
    · rw [if_neg z] at HD
      rw [decide_eq_false z] at HG
      clear z
      go_wp2_with fail
      refine (HD.out _).mono ?_
      rintro x w1 ⟨rfl, ho⟩
      have HO1 := hide (o2 HO.out ho)
      clear ho
      go_wp2_with fail
      go_ret
      exact ⟨ret_bool (by have := HG.out; rw [bless_lt]; simpa using this), o2 HO1.out (onlyA _ _)⟩
/-- What is hit. -/
def hitB (f t : ByteArray) (e : En) : Bool := !decide (bl e.key < bl f) && below e.key t
/-- What Hits answers. -/
def HtR (w w' : World) (x : Ending) (X : Nd) (f t : ByteArray) : Prop := ∃ A C, x = .returned (.tuple #[.slice A (X.es.filter (hitB f t)).length C, .bool (decide (X.rt ≠ 0) && X.goOn t), .int .i64 0]) ∧ Ets w' w.heap.size (.slice A (X.es.filter (hitB f t)).length C) (X.es.filter (hitB f t)) ∧ Only (fun _ => False) w w'
theorem filter_snoc {es : List En} {p : En → Bool} {j : Nat} (h : j < es.length) : (es.take (j + 1)).filter p = (es.take j).filter p ++ (if p es[j] = true then [es[j]] else []) := by
  rw [List.take_succ_eq_append_getElem h, List.filter_append]
  congr 1
  by_cases z : p es[j] = true
  · rw [if_pos z]; simp [z]
  · rw [if_neg z]; simp [z]
set_option maxRecDepth 100000 in
set_option maxHeartbeats 3200000 in
theorem hits_nd (w : World) (a : Int) (X : Nd) (f t : ByteArray) (B cp : Nat) (ao : Option Addr) (hP : Nm w X B ao) (ha : 0 ≤ a ∧ a < 9223372036854775808) (hv : X.lv = 0) :
    Calls Tryz.prog 93 #[.agg #[.int .i64 a, .int .i64 3, .int .i64 0, .int .i64 X.rt, .string (hiB X.hi), .slice ao X.items.length cp], .string f, .string t] w fun x w' => HtR w w' x X f t := by
  have HP := hide (Pag.new w (.int .i64 a) (.int .i64 3) (.int .i64 0) (.int .i64 X.rt) (.string (hiB X.hi)) (.slice ao X.items.length cp))
  have HO := hide (onlyA w (.cells #[.int .i64 a, .int .i64 3, .int .i64 0, .int .i64 X.rt, .string (hiB X.hi), .slice ao X.items.length cp] 37))
  have HEO : Hid (∀ W, Only (fun _ => False) w W → Calls Tryz.prog 132 #[.agg #[.int .i64 a, .int .i64 3, .int .i64 0, .int .i64 X.rt, .string (hiB X.hi), .slice ao X.items.length cp]] W fun x w' => EnR W w' x X.es) := fun W ho => entriesOf_nd W a X B cp ao (hP.more ho) ha hv
  have HMG : Hid (∀ W, Calls Tryz.prog 134 #[.agg #[.int .i64 a, .int .i64 3, .int .i64 0, .int .i64 X.rt, .string (hiB X.hi), .slice ao X.items.length cp], .string t] W fun x w' => x = .returned (.bool (X.goOn t)) ∧ Only (fun _ => False) W w') := fun W => by
    obtain ⟨lo, ho⟩ := hP.ok
    exact mayGoOn_nd W a 0 X.rt X t ao X.items.length cp lo ho.hiok
  have HBL := hide (fun (k : ByteArray) (W : World) => isBelowB_any W k t)
  have hes82 : X.es.length ≤ 82 := by rw [Nd.es_len]; exact hP.few
  have HRT : Hid (decide (X.rt ≠ 0) = !((X.rt : Int) == 0)) := by
    unfold Hid
    by_cases z : X.rt = 0
    · rw [z]; rfl
    · have : ((X.rt : Int) == 0) = false := by simpa using (by omega : ¬ (X.rt : Int) = 0)
      rw [this]; simpa using z
  clear hP ha hv
  unfold HtR
  obtain ⟨es, hes⟩ : ∃ es, X.es = es := ⟨_, rfl⟩
  obtain ⟨R, hR⟩ : ∃ R, (X.rt : Int) = R := ⟨_, rfl⟩
  obtain ⟨h, hh⟩ : ∃ h, hiB X.hi = h := ⟨_, rfl⟩
  obtain ⟨n, hn⟩ : ∃ n, X.items.length = n := ⟨_, rfl⟩
  obtain ⟨M, hM⟩ : ∃ M, X.goOn t = M := ⟨_, rfl⟩
  rw [hR, hh, hn] at HP HO HEO HMG ⊢
  rw [HRT.out, hR, hM, hes]
  rw [hes] at HEO hes82
  rw [hM] at HMG
  clear hes hR hh hn hM HRT
  obtain ⟨Z, hZ⟩ : ∃ Z, (!(R == 0) && M) = Z := ⟨_, rfl⟩
  rw [hZ]
  have HZ := hide hZ
  clear hZ
  go_enter Tryz.func93, Tryz.ntmps93
  go_upto_region 1 with fail
  obtain ⟨W0, hW0⟩ : ∃ x, w.alloc (.cells #[.int .i64 a, .int .i64 3, .int .i64 0, .int .i64 R, .string h, .slice ao n cp] 37) = x := ⟨_, rfl⟩
  rw [hW0] at HP HO ⊢
  clear hW0
  obtain ⟨p0, p1, p2, p3, p4, p5, _⟩ := HP.out
  go_wp2_with fail
  refine (HEO.out _ HO.out).mono ?_
  rintro x w1 ⟨A, C, rfl, hE, ho⟩
  have HP1 := hide (HP.out.more ho)
  have HO1 := hide (o2 HO.out ho)
  obtain ⟨Be, hels, _⟩ := hE.elsOf
  have HE1 := hide hels
  clear ho hE hels p0 p1 p2 p3 p4 p5 HP HO HEO
  go_upto_region 6 with fail
  go_loopw [11, 24] (fun v i wr => ∃ (j : Nat), j ≤ es.length ∧ i = .int .i64 (j : Int) ∧ Hid (Ets wr w1.heap.size v ((es.take j).filter (hitB f t))) ∧ Hid (Only (fun _ => False) w1 wr)) (fun _ i _ => es.length - (intOf i).toNat)
  case atStart => exact ⟨0, Nat.zero_le _, rfl, hide (Ets.nil _ _), hide (Only.refl _ _)⟩
  case round =>
    obtain ⟨j, hj, rfl, HX, HW⟩ := hrel
    have HP2 := hide (HP1.out.more HW.out)
    by_cases hlt : j < es.length
    · obtain ⟨o, rfl, heb⟩ := (HE1.out.kept HW.out (fun _ h => h)).of j hlt
      have HFS := hide (filter_snoc (p := hitB f t) hlt)
      have hfl : ((es.take j).filter (hitB f t)).length ≤ 82 := by
        have h1 := List.length_filter_le (hitB f t) (es.take j)
        rw [List.length_take] at h1
        omega
      obtain ⟨e, he⟩ : ∃ e, es[j] = e := ⟨_, rfl⟩
      rw [he] at heb HFS
      clear he
      obtain ⟨e0, e1, e2, _⟩ := heb
      have hlk : (j : Int) < (es.length : Int) := by omega
      have hlk2 : ¬ (es.length : Int) ≤ (j : Int) := by omega
      go_upto_region 8 with fail
      have HA := hide (onlyA wr (.cells #[.string e.key, .int .i64 e.page, .int .i64 e.slot] 89))
      have HV := hide (Ev.new wr e)
      obtain ⟨w2, hw2⟩ : ∃ x, wr.alloc (.cells #[.string e.key, .int .i64 e.page, .int .i64 e.slot] 89) = x := ⟨_, rfl⟩
      rw [hw2] at HA HV ⊢
      clear hw2
      obtain ⟨cb, hcb⟩ : ∃ b, wr.heap.size = b := ⟨_, rfl⟩
      rw [hcb] at HV ⊢
      clear hcb e0 e1 e2
      have HX2 := hide (HX.out.more HA.out)
      have HW2 := hide (o2 HW.out HA.out)
      clear HA
      obtain ⟨d0, d1, d2, _⟩ := HV.out
      have hbl := bless_lt (a := e.key) (b := f)
      have HB1 := hide (HBL.out e.key)
      have HHB : Hid (hitB f t e = (!decide (bl e.key < bl f) && below e.key t)) := rfl
      obtain ⟨G, hG⟩ : ∃ G, decide (bl e.key < bl f) = G := ⟨_, rfl⟩
      obtain ⟨T, hT⟩ : ∃ T, below e.key t = T := ⟨_, rfl⟩
      rw [hG] at hbl HHB
      rw [hT] at HB1 HHB
      clear hG hT
      cases G with
      | true =>
        rw [show hitB f t e = false by rw [HHB.out]; rfl, if_neg (by decide), List.append_nil] at HFS
        rw [← HFS.out] at HX2
        clear HHB HFS HB1 HX
        go_wp2_with fail
        go_roundw
        case rel => exact ⟨j + 1, by omega, by go_num, HX2, HW2⟩
        case measure => simp [intOf]; omega
      | false =>
        cases T with
        | false =>
          rw [show hitB f t e = false by rw [HHB.out]; rfl, if_neg (by decide), List.append_nil] at HFS
          rw [← HFS.out] at HX2
          clear HHB HFS HX
          go_wp2_with fail
          refine (HB1.out _).mono ?_
          rintro x w3 ⟨rfl, h4⟩
          obtain rfl := h4.symm
          go_wp2_with fail
          go_roundw
          case rel => exact ⟨j + 1, by omega, by go_num, HX2, HW2⟩
          case measure => simp [intOf]; omega
        | true =>
          rw [show hitB f t e = true by rw [HHB.out]; rfl, if_pos rfl] at HFS
          clear HHB HX
          go_wp2_with fail
          refine (HB1.out _).mono ?_
          rintro x w3 ⟨rfl, h4⟩
          obtain rfl := h4.symm
          obtain ⟨A3, C3, w4, hr4, he4, ho4, _⟩ := ets_append (w2.alloc (.cells #[.string e.key, .int .i64 e.page, .int .i64 e.slot] 89)) w1.heap.size _ _ (HX2.out.more (onlyA _ _)) w2.heap.size 0 1 1 [e] rfl (fun q hq => by
            have : q = 0 := by simpa using hq
            subst this
            have h := Ev.new w2 e
            exact ⟨h.c0, h.c1, h.c2, h.lt⟩) (by omega) (Nat.le_trans HW2.out.size (onlyA _ _).size)
          rw [← HFS.out] at he4
          have HX4 := hide he4
          have HW4 : Hid (Only (fun _ => False) w1 w4) := (o2 HW2.out (onlyA _ _)).trans ho4 (fun i hi q => by have := (World.ownsRow.lt HX2.out i q).1; omega)
          have HR4 := hide hr4
          clear hr4 he4 ho4
          go_wp2_with (at_builtin; go_must (refine Lib.wpList_append_run _ rfl _ _ _ _ rfl _ _ rfl rfl _ _ HR4.out ?_))
          go_roundw
          case rel => exact ⟨j + 1, by omega, by go_num, HX4, HW4⟩
          case measure => simp [intOf]; omega
    · have hlk : ¬ (j : Int) < (es.length : Int) := by omega
      have ej : j = es.length := by omega
      subst ej
      rw [List.take_length] at HX
      obtain ⟨p0, p1, p2, p3, p4, p5, _⟩ := HP2.out
      obtain ⟨A9, C9, hA9⟩ := HX.out.form
      subst hA9
      have HX9 := hide (HX.out.base HO1.out.size)
      have HO9 := hide (o2 HO1.out HW.out)
      clear HX HBL HE1
      by_cases hR0 : R = 0
      · subst hR0
        have HZ2 : Hid (Z = false) := HZ.out.symm
        clear HMG HZ
        go_wp2_with fail
        go_ret3
        obtain rfl := HZ2.out
        exact ⟨A9, C9, rfl, HX9.out, HO9.out⟩
      · have hR1 : (R == 0) = false := by simpa using hR0
        have HZ2 : Hid (Z = M) := by
          have := HZ.out
          rw [hR1] at this
          exact this.symm
        clear HZ
        go_wp2_with fail
        refine (HMG.out _).mono ?_
        rintro x w3 ⟨rfl, ho⟩
        have HX10 := hide (HX9.out.more ho)
        have HO10 := hide (o2 HO9.out ho)
        clear ho
        go_wp2_with fail
        go_ret3
        obtain rfl := HZ2.out
        refine ⟨A9, C9, ?_, HX10.out, HO10.out⟩
        simp only [Array.getD, List.size_toArray, List.length_cons, List.length_nil]
        simp
        exact fun _ => hR0
/-- A view's cells. -/
structure Vv where
  m : Int
  nx : Int
  aA : Option Addr
  nA : Nat
  cA : Nat
  ow : Int
  aR : Option Addr
  nR : Nat
  cR : Nat
  l : Int
  k : Int
  v : Int
  r : Int
  h : ByteArray
  aP : Option Addr
  nP : Nat
  cP : Nat
abbrev Vv.ar (V : Vv) : Array Value := #[.int .i64 V.m, .int .i64 V.nx, .slice V.aA V.nA V.cA, .int .i64 V.ow, .slice V.aR V.nR V.cR, .int .i64 V.l, .int .i64 V.k, .int .i64 V.v, .int .i64 V.r, .string V.h, .slice V.aP V.nP V.cP]
/-- A page's cells. -/
structure Pv where
  a : Int
  k : Int
  v : Int
  r : Int
  h : ByteArray
  ao : Option Addr
  n : Nat
  cp : Nat
abbrev Pv.ar (B : Pv) : Array Value := #[.int .i64 B.a, .int .i64 B.k, .int .i64 B.v, .int .i64 B.r, .string B.h, .slice B.ao B.n B.cp]
/-- What is answered: a record's cells, and whether there is one. -/
def Rt (e : Ending) (cs : List Value) (is : Bool) : Prop := e = .returned (.tuple #[.agg cs.toArray, .bool is]) ∧ cs.length = 16 ∧ cs.all Value.oneCell' = true
/-- What a step leaves. -/
def SQ (w : World) (Z : Nat → Prop) (p : Nat) (R : Pn → List Value → Bool → Prop) (e : Ending) (w' : World) : Prop :=
  ∃ Z' P' cs is, Rt e cs is ∧ (∀ b, b < w.heap.size → Z' b → Z b) ∧ Pm w' Z' p P' ∧ Only Z w w' ∧ R P' cs is
theorem Cb.pag {w : World} {b : Nat} {v0 v1 v2 v3 v4 v5 : Value} (h : Cb w b [v0, v1, v2, v3, v4, v5]) : Pag w b v0 v1 v2 v3 v4 v5 :=
  ⟨h.c 0 _ rfl, h.c 1 _ rfl, h.c 2 _ rfl, h.c 3 _ rfl, h.c 4 _ rfl, h.c 5 _ rfl, h.f 0, h.f 1, h.f 2, h.f 3, h.f 4, h.f 5, h.lt⟩
theorem Tryz.sizeRecF : (Tryz.prog.info? 50).map (·.size) = some 16 := by kernel_rfl
theorem Tryz.sizeViewF : (Tryz.prog.info? 42).map (·.size) = some 11 := by kernel_rfl
theorem load_cb16 {w : World} {b : Nat} {cs : List Value} (h : Cb w b cs) (hl : cs.length = 16) : (loadVar 50 ⟨b, 0, none⟩).run Tryz.prog w = .ok (.agg cs.toArray) w :=
  run_loadVar_mid (P := Tryz.prog) w b 0 50 cs _ h.rg.range Tryz.underlying50 rfl (by rw [hl]; exact Tryz.sizeRecF)
theorem results_cb16 {fn : Func} {p u : Tmp} (h : fn.results = #[.cell p 50, .tmp u]) {tmps : Array Value} {w : World} {b : Nat} {cs : List Value} (hp : tmps.getD p undef = .pointer (some ⟨b, 0, none⟩)) (hP : Cb w b cs) (hl : cs.length = 16) :
    (results fn tmps).run Tryz.prog w = .ok (.tuple #[.agg cs.toArray, tmps.getD u undef]) w := by
  have e : (asAddr (.pointer (some ⟨b, 0, none⟩))).run Tryz.prog w = .ok ⟨b, 0, none⟩ w := rfl
  rw [results_cell_tmp h, hp, e]
  simp only [Result.andThen, load_cb16 hP hl]
theorem yieldsIf_load_view {ops : Array Oper} {S : World → Prop} {op : Oper} {a : Act} {V : Vv} (hw : Region.wanted op (yielded ops a.tmps) = true) (x : Operand) (ho : op.op = .load 42 x)
    {b : Nat} (hx : a.eval x = .pointer (some ⟨b, 0, none⟩)) (hS : ∀ w, S w → Cb w b V.ar.toList) : YieldsIf Tryz.prog ops S op (.agg V.ar) a :=
  yieldsIf_load_mid hw 42 x ho b 0 hx V.ar.toList _ (fun w h => (hS w h).rg.range) Tryz.underlying42 rfl Tryz.sizeViewF
/-- The variables of a step: the view, the page, the record that is answered. -/
structure St3 (w W : World) (V : Vv) (B : Pv) : Prop where
  vb : Cb W w.heap.size V.ar.toList
  pb : Cb W (w.heap.size + 1) B.ar.toList
  rb : Cb W (w.heap.size + 1 + 1) Hr.none.cl
  only : Only (fun _ => False) w W
theorem St3.new (w : World) (V : Vv) (B : Pv) : St3 w (((w.alloc (.cells V.ar 42)).alloc (.cells B.ar 37)).alloc (.cells Hr.none.cells 50)) V B := by
  have h1 := Cb.new w V.ar.toList 42
  have h2 := Cb.new (w.alloc (.cells V.ar 42)) B.ar.toList 37
  have h3 := Cb.new ((w.alloc (.cells V.ar 42)).alloc (.cells B.ar 37)) Hr.none.cl 50
  rw [World.size_alloc] at h2
  rw [World.size_alloc, World.size_alloc] at h3
  exact ⟨(h1.more (onlyA _ _)).more (onlyA _ _), h2.more (onlyA _ _), h3, o2 (o2 (onlyA _ _) (onlyA _ _)) (onlyA _ _)⟩
theorem St3.kept {S : Nat → Prop} {w W W' : World} {V : Vv} {B : Pv} (h : St3 w W V B) (ho : Only S W W') (hS : ∀ k, S k → k < w.heap.size ∨ W.heap.size ≤ k) : Cb W' w.heap.size V.ar.toList ∧ Cb W' (w.heap.size + 1) B.ar.toList ∧ Cb W' (w.heap.size + 1 + 1) Hr.none.cl := by
  have l1 := h.vb.lt
  have l2 := h.pb.lt
  have l3 := h.rb.lt
  exact ⟨h.vb.kept ho (fun q => by have := hS _ q; omega), h.pb.kept ho (fun q => by have := hS _ q; omega), h.rb.kept ho (fun q => by have := hS _ q; omega)⟩
theorem St3.more {w W W' : World} {V : Vv} {B : Pv} (h : St3 w W V B) (ho : Only (fun _ => False) W W') : St3 w W' V B := ⟨h.vb.more ho, h.pb.more ho, h.rb.more ho, o2 h.only ho⟩
theorem ets_cap {w : World} {base : Nat} {A : Option Addr} {n C : Nat} {es : List En} (h : Ets w base (.slice A n C) es) : n ≤ C := by
  rcases h.2 with ⟨e, h0⟩ | ⟨g, cap, cur, e, _, _, h1, h2, _⟩
  · injection e with e1 e2 e3
    omega
  · injection e with e1 e2 e3
    omega
/-- The leaf that it looks through. -/
def Pn.lf (P : Pn) (A : Option Addr) (C : Nat) (L : List En) (m : Bool) (r : Int) : Pn := { P with ha := A, hits := L, hc := C, more := m, right := r }
theorem Pm.leaf {Z : Nat → Prop} {W W' : World} {n p : Nat} {P : Pn} (h : Pm W Z p P) (hz : ∀ b, Z b → b < n) {A : Option Addr} {C : Nat} {L : List En} {m : Bool} {r : Int} (hE : Ets W n (.slice A L.length C) L) (ho : Only (fun k => k = p) W W') (hc : Cb W' p ((P.lf A C L m r).cl p)) :
    Pm W' (fun k => Z k ∨ (Value.slice A L.length C).ownBlock = some k) p (P.lf A C L m r) := by
  have hlow : ∀ k, (Value.slice A L.length C).ownBlock = some k → n ≤ k ∧ k < W.heap.size := fun k hk => World.ownsRow.lt hE k hk
  have hp := hz p h.zp
  have hE2 := hE.kept ho (fun k hk e => by have := hlow k hk; omega)
  obtain ⟨B, ao, cp, e, hB, hb, hob⟩ := hE2.els
  injection e with e1 e2 e3
  subst e1
  subst e3
  refine ⟨hc, .inl h.zp, ?_, h.rows.kept ho (fun k hk e => (h.rz k hk).2 e), fun k hk => ⟨.inl (h.rz k hk).1, (h.rz k hk).2⟩, B, hB, fun q => ?_⟩
  · rintro b (q | q)
    · exact Nat.lt_of_lt_of_le (h.zlt b q) ho.size
    · exact Nat.lt_of_lt_of_le (hlow b q).2 ho.size
  · have hq := hb q
    refine ⟨.inr ?_, fun e => by omega, fun e => by have := hz _ (h.rz B e).1; omega⟩
    obtain ⟨o, ea, _⟩ := hB.at_ q
    rw [ea]
    rfl
/-- What blink.Hits answers. -/
def HtA (W w' : World) (x : Ending) (L : List En) (m : Bool) (er : Int) : Prop := ∃ A C, x = .returned (.tuple #[.slice A L.length C, .bool m, .int .i64 er]) ∧ Ets w' W.heap.size (.slice A L.length C) L ∧ Only (fun _ => False) W w'
end Go.Proofs.YtajjakljheafjaaGreat
