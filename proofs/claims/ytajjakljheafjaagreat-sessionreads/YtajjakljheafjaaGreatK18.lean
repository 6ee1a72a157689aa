/- Parts. -/
import Derived.Test.YtajjakljheafjaaGreatK17
set_option maxRecDepth 100000

namespace Go.Proofs.YtajjakljheafjaaGreat
open Go.RowKit
/-- A node in memory. -/
structure Nm (w : World) (x : Nd) (B : Nat) (ao : Option Addr) : Prop where
  strs : Strs w B ao x.items
  lvl : x.lv ≤ 255
  rt : x.rt ≤ 65535
  ok : ∃ lo, x.Ok lo
  kok : x.Kok
theorem Nm.more {w w' : World} {x : Nd} {B : Nat} {ao : Option Addr} (h : Nm w x B ao) (ho : Only (fun _ => False) w w') : Nm w' x B ao := ⟨h.strs.more ho, h.lvl, h.rt, h.ok, h.kok⟩
theorem hiB_is {h lo : En} (x : h = noE ∨ (h.ok = true ∧ lo.lt h)) : HiIs (hiB h) h := by
  unfold hiB
  by_cases k : h = noE
  · rw [if_pos k]; exact .inl ⟨rfl, k⟩
  · rw [if_neg k]
    rcases x with x | x
    · exact absurd x k
    · exact .inr ⟨rfl, x.1⟩
theorem Nd.items_leaf {x : Nd} (hv : x.lv = 0) : x.items = x.es.map En.enc := by
  unfold Nd.items Nd.es
  rw [List.map_map]
  refine List.map_congr_left (fun k _ => ?_)
  unfold itB
  rw [if_pos hv]
  rfl
theorem Nd.items_inner {x : Nd} (hv : 0 < x.lv) : x.items = x.ks.map (fun k => k.1.encS k.2) := by
  unfold Nd.items
  refine List.map_congr_left (fun k _ => ?_)
  unfold itB
  rw [if_neg (by omega)]
theorem Nm.few {w : World} {x : Nd} {B : Nat} {ao : Option Addr} (h : Nm w x B ao) : x.ks.length ≤ 82 := by
  obtain ⟨lo, ho⟩ := h.ok
  exact ho.few h.kok
theorem Nd.Ok.lfIs {x : Nd} {lo : En} (ho : x.Ok lo) (hv : x.lv = 0) : LfIs x.hi x.items x.es := by
  refine ⟨Nd.items_leaf hv, ho.rise, ?_, ?_⟩
  · intro e he
    obtain ⟨k, hk, rfl⟩ := List.mem_map.1 he
    exact (ho.leaf hv k hk).1
  · intro e he
    obtain ⟨k, hk, rfl⟩ := List.mem_map.1 he
    exact (ho.leaf hv k hk).2.2.2
theorem Nd.Ok.inIs {x : Nd} {lo : En} (ho : x.Ok lo) (hk : x.Kok) (hv : 0 < x.lv) : InIs x.hi x.items x.ks :=
  ⟨Nd.items_inner hv, ho.rise, ho.first hv, fun k hkk => ⟨(ho.inner hv k hkk).1, (ho.inner hv k hkk).2.2⟩, hk hv⟩
theorem Nm.lp {w : World} {x : Nd} {B : Nat} {ao : Option Addr} (h : Nm w x B ao) (hv : x.lv = 0) : Lp w x.rt (hiB x.hi) x.hi B ao x.items x.es := by
  obtain ⟨lo, ho⟩ := h.ok
  have hf := h.few
  have hr := h.rt
  exact ⟨h.strs, ⟨by omega, by omega⟩, hiB_is ho.hiok, ho.lfIs hv, by rw [Nd.items_len]; omega⟩
theorem Nm.ip {w : World} {x : Nd} {B : Nat} {ao : Option Addr} (h : Nm w x B ao) (hv : 0 < x.lv) : Ip w x.lv x.rt (hiB x.hi) x.hi B ao x.items x.ks := by
  obtain ⟨lo, ho⟩ := h.ok
  have hf := h.few
  have hr := h.rt
  have hl := h.lvl
  exact ⟨h.strs, ⟨by omega, by omega⟩, ⟨by omega, by omega⟩, hiB_is ho.hiok, ho.inIs h.kok hv, by rw [Nd.items_len]; omega⟩
/-- What read answers of a node. -/
def RdR (w w' : World) (x : Ending) (X : Nd) : Prop := ∃ A C A2 n2 C2, x = .returned (.tuple #[cvv (.slice A X.ks.length C) (.slice A2 n2 C2) X.hi, .bool true]) ∧ Ets w' w.heap.size (.slice A X.ks.length C) X.es ∧ (0 < X.lv → n2 = X.ks.length ∧ Kts w' w.heap.size (.slice A2 n2 C2) (X.ks.map Prod.snd)) ∧ Only (fun _ => False) w w'
theorem read_inner (w : World) (a v r : Int) (h : ByteArray) (hi : En) (B cp : Nat) (ao : Option Addr) (l : List ByteArray) (ks : List (En × Int)) (hP : Ip w v r h hi B ao l ks) :
    Calls Tryz.prog 96 #[.agg #[.int .i64 a, .int .i64 3, .int .i64 v, .int .i64 r, .string h, .slice ao l.length cp]] w fun x w' => InR w w' x hi ks := by
  have HX := hide (lf_new w (.int .i64 a) (.int .i64 3) (.int .i64 v) (.int .i64 r) (.string h) (.slice ao l.length cp))
  have HR := hide ((hP.more HX.out.2.2).read a cp)
  have hv : ¬ v = 0 := by have := hP.level; omega
  clear hP
  go_enter Tryz.func96, Tryz.ntmps96
  go_upto_region 1 with fail
  obtain ⟨W0, hW0⟩ : ∃ x, (w.alloc (.cells #[.int .i64 a, .int .i64 3, .int .i64 v, .int .i64 r, .string h, .slice ao l.length cp] 37)).alloc (.cells #[.slice none 0 0, .slice none 0 0, .string ⟨#[]⟩, .int .i64 0, .int .i64 0] 164) = x := ⟨_, rfl⟩
  rw [hW0] at HX HR ⊢
  clear hW0
  obtain ⟨p0, p1, p2, p3, p4, p5, _⟩ := HX.out.1
  go_wp2_with fail
  refine HR.out.mono ?_
  rintro x w1 ⟨A, C, A2, C2, rfl, he, hk, ho⟩
  unfold cvv
  have HE := hide he
  have HK := hide hk
  have HC := hide (HX.out.2.1.more ho)
  have HB : Hid (w.heap.size + 1 < W0.heap.size) := HX.out.2.1.lt
  have HO1 := hide (o2 HX.out.2.2 ho)
  clear he hk ho p0 p1 p2 p3 p4 p5 HR
  obtain ⟨r0, r1, r2, r3, r4, f0, f1, f2, f3, f4, _⟩ := HC.out
  go_wp2_with fail
  refine bodyPost_ret (results_cv rfl rfl (HC.out.all _ _ hi)) rfl ?_
  have hfive := Only.five w1 (w.heap.size + 1) (.slice A ks.length C) (.slice A2 ks.length C2) (.string hi.key) (.int .i64 hi.page) (.int .i64 hi.slot)
  refine ⟨A, C, A2, C2, rfl, (HE.out.kept hfive (fun k hk => ?_)).base (by have := HB.out; omega), (HK.out.kept hfive (fun k hk => ?_)).base (by have := HB.out; omega), HO1.out.trans hfive (fun i hi e => by omega)⟩
  · have := (World.ownsRow.lt HE.out k hk).1
    have := HB.out
    omega
  · have := (World.ownsRow.lt HK.out k hk).1
    have := HB.out
    omega
theorem read_nd (w : World) (a : Int) (X : Nd) (B cp : Nat) (ao : Option Addr) (hP : Nm w X B ao) :
    Calls Tryz.prog 96 #[.agg #[.int .i64 a, .int .i64 3, .int .i64 X.lv, .int .i64 X.rt, .string (hiB X.hi), .slice ao X.items.length cp]] w fun x w' => RdR w w' x X := by
  rcases Nat.eq_zero_or_pos X.lv with v | v
  · have h := read_leaf w a X.rt (hiB X.hi) X.hi B cp ao X.items X.es (hP.lp v)
    rw [v]
    refine h.mono ?_
    rintro x w' ⟨A, C, rfl, he, ho⟩
    rw [Nd.es_len] at he ⊢
    exact ⟨A, C, none, 0, 0, rfl, he, fun z => absurd v (by omega), ho⟩
  · have h := read_inner w a X.lv X.rt (hiB X.hi) X.hi B cp ao X.items X.ks (hP.ip v)
    refine h.mono ?_
    rintro x w' ⟨A, C, A2, C2, rfl, he, hk, ho⟩
    exact ⟨A, C, A2, _, C2, rfl, he, fun _ => ⟨rfl, hk⟩, ho⟩
/-- A page as plain data. -/
def Nd.pg (x : Nd) (a : Int) : Pg := ⟨a, 3, x.lv, x.rt, hiB x.hi, x.items⟩
theorem Nm.out {w : World} {x : Nd} {B : Nat} {ao : Option Addr} (h : Nm w x B ao) {a : Int} (ha : 0 ≤ a) : ((x.pg a).out).2 = 0 := by
  obtain ⟨lo, ho⟩ := h.ok
  have hf := h.few
  have hl := h.lvl
  have hr := h.rt
  have hs := ho.size
  have hh : (hiB x.hi).size ≤ 31 := hiB_size (by rcases ho.hiok with y | y; exact .inl y; exact .inr y.1)
  rw [out_ok]
  · unfold Pg.inRange Nd.pg
    simp only []
    omega
  · unfold Pg.fits Nd.pg
    unfold Nd.size at hs
    have := Nd.items_len x
    unfold Pg.size
    simp only []
    omega
set_option maxHeartbeats 1600000 in
theorem check_nd (w : World) (a : Int) (X : Nd) (B cp : Nat) (ao : Option Addr) (hP : Nm w X B ao) (ha : 0 ≤ a ∧ a < 9223372036854775808) :
    Calls Tryz.prog 52 #[.agg #[.int .i64 a, .int .i64 3, .int .i64 X.lv, .int .i64 X.rt, .string (hiB X.hi), .slice ao X.items.length cp]] w fun x w' => x = .returned (.int .i64 0) ∧ Only (fun _ => False) w w' := by
  have HP := hide (Pag.new w (.int .i64 a) (.int .i64 3) (.int .i64 X.lv) (.int .i64 X.rt) (.string (hiB X.hi)) (.slice ao X.items.length cp))
  have HO := hide (onlyA w (.cells #[.int .i64 a, .int .i64 3, .int .i64 X.lv, .int .i64 X.rt, .string (hiB X.hi), .slice ao X.items.length cp] 37))
  have HR : Hid (∀ W, Only (fun _ => False) w W → Calls Tryz.prog 96 #[.agg #[.int .i64 a, .int .i64 3, .int .i64 X.lv, .int .i64 X.rt, .string (hiB X.hi), .slice ao X.items.length cp]] W fun x w' => RdR W w' x X) := fun W ho => read_nd W a X B cp ao (hP.more ho)
  have HE : Hid (∀ W, Only (fun _ => False) w W → Calls Tryz.prog 97 #[.agg #[.int .i64 a, .int .i64 3, .int .i64 X.lv, .int .i64 X.rt, .string (hiB X.hi), .slice ao X.items.length cp]] W fun x w' => (∃ s, x = .returned (.tuple #[.string s, .int .i64 0])) ∧ Only (fun _ => False) W w') := fun W ho => by
    have h := pencode_any W a 3 X.lv X.rt (hiB X.hi) B cp ao X.items (hP.strs.more ho) (by obtain ⟨lo, hk⟩ := hP.ok; have := hiB_size (h := X.hi) (by rcases hk.hiok with y | y; exact .inl y; exact .inr y.1); omega) ha.2
    refine h.mono ?_
    rintro x w' ⟨rfl, ho'⟩
    exact ⟨⟨_, by rw [show (Pg.out ⟨a, 3, X.lv, X.rt, hiB X.hi, X.items⟩).2 = 0 from hP.out ha.1]⟩, ho'⟩
  clear hP ha
  obtain ⟨L, hL⟩ : ∃ L, (X.lv : Int) = L := ⟨_, rfl⟩
  obtain ⟨R, hR⟩ : ∃ R, (X.rt : Int) = R := ⟨_, rfl⟩
  obtain ⟨h, hh⟩ : ∃ h, hiB X.hi = h := ⟨_, rfl⟩
  obtain ⟨n, hn⟩ : ∃ n, X.items.length = n := ⟨_, rfl⟩
  rw [hL, hR, hh, hn] at HP HO HR HE ⊢
  clear hL hR hh hn
  go_enter Tryz.func52, Tryz.ntmps52
  go_upto_region 1 with fail
  obtain ⟨W0, hW0⟩ : ∃ x, w.alloc (.cells #[.int .i64 a, .int .i64 3, .int .i64 L, .int .i64 R, .string h, .slice ao n cp] 37) = x := ⟨_, rfl⟩
  rw [hW0] at HP HO ⊢
  clear hW0
  obtain ⟨p0, p1, p2, p3, p4, p5, _⟩ := HP.out
  go_wp2_with fail
  refine (HR.out _ HO.out).mono ?_
  rintro x w1 ⟨A, C, A2, n2, C2, rfl, he, hk, ho⟩
  unfold cvv
  have HP1 := hide (HP.out.more ho)
  have HO1 := hide (o2 HO.out ho)
  clear he hk ho p0 p1 p2 p3 p4 p5 HP HO HR
  go_upto_region 2 with fail
  have HA := hide (onlyA w1 (.cells #[.slice A X.ks.length C, .slice A2 n2 C2, .string X.hi.key, .int .i64 X.hi.page, .int .i64 X.hi.slot] 164))
  obtain ⟨w2, hw2⟩ : ∃ x, w1.alloc (.cells #[.slice A X.ks.length C, .slice A2 n2 C2, .string X.hi.key, .int .i64 X.hi.page, .int .i64 X.hi.slot] 164) = x := ⟨_, rfl⟩
  rw [hw2] at HA ⊢
  clear hw2
  have HP2 := hide (HP1.out.more HA.out)
  have HO2 := hide (o2 HO1.out HA.out)
  clear HA HP1 HO1
  obtain ⟨p0, p1, p2, p3, p4, p5, _⟩ := HP2.out
  go_wp2_with fail
  refine (HE.out _ HO2.out).mono ?_
  rintro x w3 ⟨⟨s, rfl⟩, ho⟩
  have HO3 := hide (o2 HO2.out ho)
  clear ho
  go_wp2_with fail
  go_ret
  exact ⟨rfl, HO3.out⟩
set_option maxHeartbeats 1600000 in
theorem beyond_nd (w : World) (a : Int) (X : Nd) (e : En) (B cp : Nat) (ao : Option Addr) (hP : Nm w X B ao) :
    Calls Tryz.prog 53 #[.agg #[.int .i64 a, .int .i64 3, .int .i64 X.lv, .int .i64 X.rt, .string (hiB X.hi), .slice ao X.items.length cp], e.agg] w fun x w' => x = .returned (byV X.hi e) ∧ Only (fun _ => False) w w' := by
  have HX := hide (pe_new w (.int .i64 a) (.int .i64 3) (.int .i64 X.lv) (.int .i64 X.rt) (.string (hiB X.hi)) (.slice ao X.items.length cp) e)
  have HR := hide (read_nd _ a X B cp ao (hP.more HX.out.2.2))
  have HIE : Hid (∀ W, Calls Tryz.prog 84 #[.agg #[.string e.key, .int .i64 e.page, .int .i64 e.slot]] W fun x w' => x = .returned (.bool e.ok) ∧ Only (fun _ => False) W w') := fun W => isEntry_any e W
  have HBY : Hid (∀ W (A1 A2 : Option Addr) (n1 n2 C1 C2 : Nat), Calls Tryz.prog 85 #[.agg #[.slice A1 n1 C1, .slice A2 n2 C2, .string X.hi.key, .int .i64 X.hi.page, .int .i64 X.hi.slot], .agg #[.string e.key, .int .i64 e.page, .int .i64 e.slot]] W fun x w' => x = .returned (.bool (byd X.hi e)) ∧ Only (fun _ => False) W w') := fun W A1 A2 n1 n2 C1 C2 => isBeyond_any W A1 A2 n1 n2 C1 C2 X.hi e
  clear hP
  unfold byV En.agg
  obtain ⟨O, hO⟩ : ∃ O, e.ok = O := ⟨_, rfl⟩
  obtain ⟨Y, hY⟩ : ∃ Y, byd X.hi e = Y := ⟨_, rfl⟩
  rw [hO] at HIE ⊢
  rw [hY] at HBY ⊢
  clear hO hY
  obtain ⟨L, hL⟩ : ∃ L, (X.lv : Int) = L := ⟨_, rfl⟩
  obtain ⟨R, hR⟩ : ∃ R, (X.rt : Int) = R := ⟨_, rfl⟩
  obtain ⟨h, hh⟩ : ∃ h, hiB X.hi = h := ⟨_, rfl⟩
  obtain ⟨n, hn⟩ : ∃ n, X.items.length = n := ⟨_, rfl⟩
  rw [hL, hR, hh, hn] at HX HR ⊢
  clear hL hR hh hn
  go_enter Tryz.func53, Tryz.ntmps53
  go_upto_region 1 with fail
  obtain ⟨W0, hW0⟩ : ∃ x, (w.alloc (.cells #[.int .i64 a, .int .i64 3, .int .i64 L, .int .i64 R, .string h, .slice ao n cp] 37)).alloc (.cells #[.string e.key, .int .i64 e.page, .int .i64 e.slot] 89) = x := ⟨_, rfl⟩
  rw [hW0] at HX HR ⊢
  clear hW0
  obtain ⟨p0, p1, p2, p3, p4, p5, _⟩ := HX.out.1
  go_wp2_with fail
  refine HR.out.mono ?_
  rintro x w1 ⟨A, C, A2, n2, C2, rfl, he, hk, ho⟩
  unfold cvv
  have HV1 := hide (HX.out.2.1.more ho)
  have HO1 := hide (o2 HX.out.2.2 ho)
  clear he hk ho p0 p1 p2 p3 p4 p5 HR HX
  go_upto_region 2 with fail
  have HA := hide (onlyA w1 (.cells #[.slice A X.ks.length C, .slice A2 n2 C2, .string X.hi.key, .int .i64 X.hi.page, .int .i64 X.hi.slot] 164))
  have HC := hide (Cv.new w1 (.slice A X.ks.length C) (.slice A2 n2 C2) X.hi)
  obtain ⟨cb, hcb⟩ : ∃ b, w1.heap.size = b := ⟨_, rfl⟩
  rw [hcb] at HC ⊢
  clear hcb
  obtain ⟨w2, hw2⟩ : ∃ x, w1.alloc (.cells #[.slice A X.ks.length C, .slice A2 n2 C2, .string X.hi.key, .int .i64 X.hi.page, .int .i64 X.hi.slot] 164) = x := ⟨_, rfl⟩
  rw [hw2] at HA HC ⊢
  clear hw2
  have HV2 := hide (HV1.out.more HA.out)
  have HO2 := hide (o2 HO1.out HA.out)
  clear HA HV1 HO1
  obtain ⟨d0, d1, d2, _⟩ := HV2.out
  go_wp2_with fail
  refine (HIE.out _).mono ?_
  rintro x w3 ⟨rfl, ho⟩
  have HV3 := hide (HV2.out.more ho)
  have HC3 := hide (HC.out.more ho)
  have HO3 := hide (o2 HO2.out ho)
  clear ho d0 d1 d2 HV2 HC HO2
  cases O with
  | false =>
    go_wp2_with fail
    go_ret2
    exact ⟨rfl, HO3.out⟩
  | true =>
    obtain ⟨d0, d1, d2, _⟩ := HV3.out
    obtain ⟨q0, q1, q2, q3, q4, _⟩ := HC3.out
    go_wp2_with fail
    refine (HBY.out _ _ _ _ _ _ _).mono ?_
    rintro x w4 ⟨rfl, ho⟩
    have HO4 := hide (o2 HO3.out ho)
    clear ho
    go_wp2_with fail
    go_ret2
    exact ⟨rfl, HO4.out⟩
end Go.Proofs.YtajjakljheafjaaGreat
namespace Go.Proofs.YtajjakljheafjaaGreat
open Go.RowKit
end Go.Proofs.YtajjakljheafjaaGreat
