/- Trees of nodes as plain data: an item fits into the half to which it belongs. -/
import Derived.Test.YthjjkhacniebiaaGreatK35
import Derived.Test.YthjjkhacniebiaaGreatK38
namespace Go.Proofs.YthjjkhacniebiaaGreat
open Go.RowKit

/-- What Need answers. -/
def Nd.need (X : Nd) (page : Int) : Option (En × Int) → Int × Int
  | none => (0, 140)
  | some k => if X.std k.1 = true then (0, 150) else if X.wiK (some k) = 3 then (if page = 1 then 2 else 1, 0) else (0, X.wiK (some k))
set_option maxHeartbeats 3200000 in
theorem need_nd (w : World) (a page : Int) (X : Nd) (s : ByteArray) (B cp : Nat) (ao : Option Addr) (hP : Nm w X B ao) (hF : Fit ao X.items.length cp) (ha : 0 ≤ a ∧ a < 9223372036854775808) :
    Calls Tryz.prog 7 #[.agg #[.int .i64 a, .int .i64 3, .int .i64 X.lv, .int .i64 X.rt, .string (hiB X.hi), .slice ao X.items.length cp], .int .i64 page, .string s] w fun x w' => x = .returned (.tuple #[.int .i64 (X.need page (brd X.lv s)).1, .int .i64 (X.need page (brd X.lv s)).2]) ∧ Only (fun _ => False) w w' := by
  have HP := hide (Pag.new w (.int .i64 a) (.int .i64 3) (.int .i64 X.lv) (.int .i64 X.rt) (.string (hiB X.hi)) (.slice ao X.items.length cp))
  have HO := hide (onlyA w (.cells #[.int .i64 a, .int .i64 3, .int .i64 X.lv, .int .i64 X.rt, .string (hiB X.hi), .slice ao X.items.length cp] 24))
  have HCK : Hid (∀ W, Only (fun _ => False) w W → Calls Tryz.prog 24 #[.agg #[.int .i64 a, .int .i64 3, .int .i64 X.lv, .int .i64 X.rt, .string (hiB X.hi), .slice ao X.items.length cp]] W fun x w' => x = .returned (.int .i64 0) ∧ Only (fun _ => False) W w') := fun W ho => check_nd W a X B cp ao (hP.more ho) ha
  have HB := hide (fun W => bread_any X.lv s W)
  have HST : Hid (∀ (e : En) W, Only (fun _ => False) w W → Calls Tryz.prog 26 #[.agg #[.int .i64 a, .int .i64 3, .int .i64 X.lv, .int .i64 X.rt, .string (hiB X.hi), .slice ao X.items.length cp], .agg #[.string e.key, .int .i64 e.page, .int .i64 e.slot]] W fun x w' => x = .returned (.bool (X.std e)) ∧ Only (fun _ => False) W w') := fun e W ho => stands_nd W a X e B cp ao (hP.more ho)
  have HWI : Hid (∀ W, Only (fun _ => False) w W → Calls Tryz.prog 27 #[.agg #[.int .i64 a, .int .i64 3, .int .i64 X.lv, .int .i64 X.rt, .string (hiB X.hi), .slice ao X.items.length cp], .string s] W fun x w' => Res W w' x (X.wiP a (brd X.lv s)) (X.wiK (brd X.lv s))) := fun W ho => with_nd W a X s B cp ao (hP.more ho) hF
  clear hP hF ha
  obtain ⟨b, hb⟩ : ∃ b, brd X.lv s = b := ⟨_, rfl⟩
  rw [hb] at HB HWI ⊢
  clear hb
  obtain ⟨⟨N, E⟩, hNE⟩ : ∃ q, X.need page b = q := ⟨_, rfl⟩
  rw [hNE]
  have HNE := hide hNE
  clear hNE
  simp only []
  obtain ⟨L, hL⟩ : ∃ L, (X.lv : Int) = L := ⟨_, rfl⟩
  obtain ⟨R, hR⟩ : ∃ R, (X.rt : Int) = R := ⟨_, rfl⟩
  obtain ⟨h, hh⟩ : ∃ h, hiB X.hi = h := ⟨_, rfl⟩
  obtain ⟨n, hn⟩ : ∃ n, X.items.length = n := ⟨_, rfl⟩
  rw [hL, hR, hh, hn] at HP HO HCK HST HWI ⊢
  rw [hL] at HB
  clear hL hR hh hn
  go_enter Tryz.func7, Tryz.ntmps7
  go_upto_region 1 with fail
  obtain ⟨W0, hW0⟩ : ∃ x, w.alloc (.cells #[.int .i64 a, .int .i64 3, .int .i64 L, .int .i64 R, .string h, .slice ao n cp] 24) = x := ⟨_, rfl⟩
  rw [hW0] at HP HO ⊢
  clear hW0
  obtain ⟨p0, p1, p2, p3, p4, p5, _⟩ := HP.out
  go_wp2_with fail
  refine (HCK.out _ HO.out).mono ?_
  rintro x w1 ⟨rfl, ho⟩
  have HP1 := hide (HP.out.more ho)
  have HO1 := hide (o2 HO.out ho)
  clear ho p0 p1 p2 p3 p4 p5 HP HO HCK
  obtain ⟨p0, p1, p2, p3, p4, p5, _⟩ := HP1.out
  cases b with
  | none =>
    have HB2 : Hid (∀ W, Calls Tryz.prog 25 #[.int .i64 L, .string s] W fun x w' => x = .returned (.tuple #[.agg #[.string ⟨#[]⟩, .int .i64 0, .int .i64 0], .int .i64 0, .int .i64 140]) ∧ Only (fun _ => False) W w') := HB
    have HN : Hid (N = 0 ∧ E = 140) := by
      have h := HNE.out
      unfold Nd.need at h
      simp only [Prod.mk.injEq] at h
      exact ⟨h.1.symm, h.2.symm⟩
    clear HNE
    go_wp2_with fail
    refine (HB2.out _).mono ?_
    rintro x w2 ⟨rfl, ho⟩
    have HO2 := hide (o2 HO1.out ho)
    clear ho
    go_wp2_with fail
    go_ret2
    obtain ⟨rfl, rfl⟩ := HN.out
    exact ⟨rfl, o2 HO2.out (onlyA _ _)⟩
  | some k =>
    obtain ⟨e, c⟩ := k
    have HB2 : Hid (∀ W, Calls Tryz.prog 25 #[.int .i64 L, .string s] W fun x w' => x = .returned (.tuple #[.agg #[.string e.key, .int .i64 e.page, .int .i64 e.slot], .int .i64 c, .int .i64 0]) ∧ Only (fun _ => False) W w') := HB
    clear HB
    have HST1 := hide (HST.out e)
    have HN : Hid ((if X.std e = true then ((0 : Int), (150 : Int)) else if X.wiK (some (e, c)) = 3 then (if page = 1 then 2 else 1, 0) else (0, X.wiK (some (e, c)))) = (N, E)) := HNE.out
    clear HNE
    obtain ⟨T, hT⟩ : ∃ T, X.std e = T := ⟨_, rfl⟩
    obtain ⟨K, hK⟩ : ∃ K, X.wiK (some (e, c)) = K := ⟨_, rfl⟩
    rw [hT] at HST1 HN
    rw [hK] at HWI HN
    clear hT hK HST
    go_wp2_with fail
    refine (HB2.out _).mono ?_
    rintro x w2 ⟨rfl, ho⟩
    have HP2 := hide (HP1.out.more ho)
    have HO2 := hide (o2 HO1.out ho)
    clear ho p0 p1 p2 p3 p4 p5 HP1 HO1 HB2
    go_upto_region 4 with fail
    have HA := hide (onlyA w2 (.cells #[.string e.key, .int .i64 e.page, .int .i64 e.slot] 41))
    have HV := hide (Ev.new w2 e)
    obtain ⟨cb, hcb⟩ : ∃ b, w2.heap.size = b := ⟨_, rfl⟩
    rw [hcb] at HV ⊢
    clear hcb
    obtain ⟨w3, hw3⟩ : ∃ x, w2.alloc (.cells #[.string e.key, .int .i64 e.page, .int .i64 e.slot] 41) = x := ⟨_, rfl⟩
    rw [hw3] at HA HV ⊢
    clear hw3
    have HP3 := hide (HP2.out.more HA.out)
    have HO3 := hide (o2 HO2.out HA.out)
    clear HA HP2 HO2
    obtain ⟨p0, p1, p2, p3, p4, p5, _⟩ := HP3.out
    obtain ⟨d0, d1, d2, _⟩ := HV.out
    go_wp2_with fail
    refine (HST1.out _ HO3.out).mono ?_
    rintro x w4 ⟨rfl, ho⟩
    have HP4 := hide (HP3.out.more ho)
    have HO4 := hide (o2 HO3.out ho)
    clear ho p0 p1 p2 p3 p4 p5 d0 d1 d2 HP3 HO3 HV HST1
    obtain ⟨p0, p1, p2, p3, p4, p5, _⟩ := HP4.out
    cases T with
    | true =>
      have HN2 : Hid (N = 0 ∧ E = 150) := by
        have h := HN.out
        rw [if_pos rfl, Prod.mk.injEq] at h
        exact ⟨h.1.symm, h.2.symm⟩
      clear HN
      go_wp2_with fail
      go_ret2
      obtain ⟨rfl, rfl⟩ := HN2.out
      exact ⟨rfl, HO4.out⟩
    | false =>
      rw [if_neg (by decide)] at HN
      have HWI1 := hide (HWI.out w4 HO4.out)
      by_cases k3 : K = 3
      · subst k3
        by_cases pg : page = 1
        · have HN2 : Hid (N = 2 ∧ E = 0) := by
            have h := HN.out
            rw [if_pos rfl, if_pos pg, Prod.mk.injEq] at h
            exact ⟨h.1.symm, h.2.symm⟩
          clear HN
          go_wp2_with fail
          refine HWI1.out.mono ?_
          rintro x w5 ⟨B5, ao5, cp5, rfl, hS5, hF5, ho5, hB5⟩
          have HO5 := hide (o2 HO4.out ho5)
          clear hS5 hF5 hB5 ho5
          go_wp2_with fail
          go_ret2
          obtain ⟨rfl, rfl⟩ := HN2.out
          exact ⟨rfl, o2 HO5.out (onlyA _ _)⟩
        · have HN2 : Hid (N = 1 ∧ E = 0) := by
            have h := HN.out
            rw [if_pos rfl, if_neg pg, Prod.mk.injEq] at h
            exact ⟨h.1.symm, h.2.symm⟩
          clear HN
          go_wp2_with fail
          refine HWI1.out.mono ?_
          rintro x w5 ⟨B5, ao5, cp5, rfl, hS5, hF5, ho5, hB5⟩
          have HO5 := hide (o2 HO4.out ho5)
          clear hS5 hF5 hB5 ho5
          go_wp2_with fail
          go_ret2
          obtain ⟨rfl, rfl⟩ := HN2.out
          exact ⟨rfl, o2 HO5.out (onlyA _ _)⟩
      · have HN2 : Hid (N = 0 ∧ E = K) := by
          have h := HN.out
          rw [if_neg k3, Prod.mk.injEq] at h
          exact ⟨h.1.symm, h.2.symm⟩
        clear HN
        go_wp2_with fail
        refine HWI1.out.mono ?_
        rintro x w5 ⟨B5, ao5, cp5, rfl, hS5, hF5, ho5, hB5⟩
        have HO5 := hide (o2 HO4.out ho5)
        clear hS5 hF5 hB5 ho5
        go_wp2_with fail
        go_ret2
        obtain ⟨rfl, rfl⟩ := HN2.out
        exact ⟨rfl, o2 HO5.out (onlyA _ _)⟩
end Go.Proofs.YthjjkhacniebiaaGreat

namespace Go.Proofs.YthjjkhacniebiaaGreat
open Go.RowKit

/-- A node that may stand in memory. -/
structure Gd (X : Nd) : Prop where
  lvl : X.lv ≤ 255
  rt : X.rt ≤ 65535
  ok : ∃ lo, X.Ok lo
  kok : X.Kok
theorem Gd.nm {X : Nd} (h : Gd X) {w : World} {B : Nat} {ao : Option Addr} (hs : Strs w B ao X.items) : Nm w X B ao := ⟨hs, h.lvl, h.rt, h.ok, h.kok⟩
theorem six_eq (w : World) (b o : Nat) (v0 v1 v2 v3 v4 v5 : Value) : (((((w.setCell ⟨b, o, none⟩ v0).setCell ⟨b, o + 1, none⟩ v1).setCell ⟨b, o + 2, none⟩ v2).setCell ⟨b, o + 3, none⟩ v3).setCell ⟨b, o + 4, none⟩ v4).setCell ⟨b, o + 5, none⟩ v5 = w.setCells b o [v0, v1, v2, v3, v4, v5] := rfl
set_option maxRecDepth 100000 in
set_option maxHeartbeats 3200000 in
theorem layInto_left (w : World) (base b n c : Nat) (m1 m2 : Int) (L R : Nd) (ao1 ao2 : Option Addr) (cp1 cp2 : Nat) (C3 : List Value) (s : ByteArray) (e : En) (k : Int) (P : Nat → Prop) (hn : 2 ≤ n) (hr : w.ownsRow base 85 7 (.slice (some ⟨b, 0, none⟩) n c) n (imc m1 (L.z 0 ao1 cp1) ++ imc m2 (R.z 0 ao2 cp2) ++ C3)) (hL : Gd L)  (hA1 : At w P (L.z 0 ao1 cp1))   (hs : brd L.lv s = some (e, k)) (he : e.ok = true) (hy : byd L.hi e = false) (hb : ¬ L.bad e) (hz : (L.ins e k).size ≤ 512) :
    Calls Tryz.prog 31 #[.slice (some ⟨b, 0, none⟩) n c, .string s] w fun x w' => x = .returned (.int .i64 0) ∧ ∃ ao' cp', w'.ownsRow base 85 7 (.slice (some ⟨b, 0, none⟩) n c) n (imc m1 ((L.ins e k).z 0 ao' cp') ++ imc m2 (R.z 0 ao2 cp2) ++ C3) ∧ At w' (fun k => w.heap.size ≤ k) ((L.ins e k).z 0 ao' cp') ∧ Only (fun k => k = b) w w' := by
  have HIB : Hid (∀ W, Only (fun _ => False) w W → Calls Tryz.prog 67 #[.agg #[.int .i64 0, .int .i64 3, .int .i64 L.lv, .int .i64 L.rt, .string (hiB L.hi), .slice ao1 L.items.length cp1], .string s] W fun x w' => x = .returned (.bool false) ∧ Only (fun _ => False) W w') := fun W ho => by
    obtain ⟨B, hS, _⟩ := hA1.strs
    have h := isBeyondB_nd W 0 L s e k B cp1 ao1 (hL.nm (hS.more ho)) hs he
    rw [hy] at h
    exact h
  have HWI : Hid (∀ W, Only (fun _ => False) w W → Calls Tryz.prog 27 #[.agg #[.int .i64 0, .int .i64 3, .int .i64 L.lv, .int .i64 L.rt, .string (hiB L.hi), .slice ao1 L.items.length cp1], .string s] W fun x w' => Res W w' x ((L.ins e k).pg 0) 0) := fun W ho => by
    obtain ⟨B, hS, _⟩ := hA1.strs
    have h := with_nd W 0 L s B cp1 ao1 (hL.nm (hS.more ho)) hA1.fit
    rw [hs] at h
    unfold Nd.wiP Nd.wiK at h
    simp only [] at h
    rw [if_neg hb, if_neg (by omega), if_neg hb, if_neg (by omega)] at h
    exact h
  have HRG := hide (own_rg hr)
  have HRW := hide hr
  have HN : Hid (2 ≤ n) := hn
  clear hL hA1 hs he hy hb hz hr
  obtain ⟨z1, hz1⟩ : ∃ z, L.z 0 ao1 cp1 = z := ⟨_, rfl⟩
  obtain ⟨z2, hz2⟩ : ∃ z, R.z 0 ao2 cp2 = z := ⟨_, rfl⟩
  have HIB2 : Hid (∀ W, Only (fun _ => False) w W → Calls Tryz.prog 67 #[.agg (L.z 0 ao1 cp1).ar, .string s] W fun x w' => x = .returned (.bool false) ∧ Only (fun _ => False) W w') := HIB
  have HWI2 : Hid (∀ W, Only (fun _ => False) w W → Calls Tryz.prog 27 #[.agg (L.z 0 ao1 cp1).ar, .string s] W fun x w' => Res W w' x ((L.ins e k).pg 0) 0) := HWI
  clear HIB HWI
  rw [hz1] at HIB2 HRG HRW HWI2
  rw [hz2] at HRG HRW ⊢
  clear hz1 hz2
  unfold Pz.ar at HIB2 HWI2
  have hn0 : ¬ (n : Int) ≤ 0 := by have := HN.out; omega
  have hn1 : (0 : Int) < (n : Int) := by have := HN.out; omega
  have hn2 : ¬ (n : Int) ≤ 1 := by have := HN.out; omega
  have hn3 : (1 : Int) < (n : Int) := by have := HN.out; omega
  obtain ⟨Q, hQ⟩ : ∃ Q, (L.ins e k).pg 0 = Q := ⟨_, rfl⟩
  have HQ := hide hQ
  rw [hQ] at HWI2
  clear hQ hn
  have p0 := HRG.out.cell 1 (.int .i64 z1.p.lsn) rfl
  have p1 := HRG.out.cell 2 (.int .i64 z1.p.kind) rfl
  have p2 := HRG.out.cell 3 (.int .i64 z1.p.level) rfl
  have p3 := HRG.out.cell 4 (.int .i64 z1.p.right) rfl
  have p4 := HRG.out.cell 5 (.string z1.p.high) rfl
  have p5 := HRG.out.cell 6 (.slice z1.ao z1.p.items.length z1.cp) rfl
  rw [Nat.zero_add] at p0 p1 p2 p3 p4 p5
  go_enter Tryz.func31, Tryz.ntmps31
  go_wp2_with fail
  refine (HIB2.out _ (Only.refl _ _)).mono ?_
  rintro x w1 ⟨rfl, ho⟩
  have HO1 := hide ho
  have HRG1 := hide (HRG.out.more ho)
  have HRW1 := hide (own_keptJ HRW.out ho (fun _ _ h => h))
  clear ho p0 p1 p2 p3 p4 p5 HRG HRW HIB2
  have p0 := HRG1.out.cell 1 (.int .i64 z1.p.lsn) rfl
  have p1 := HRG1.out.cell 2 (.int .i64 z1.p.kind) rfl
  have p2 := HRG1.out.cell 3 (.int .i64 z1.p.level) rfl
  have p3 := HRG1.out.cell 4 (.int .i64 z1.p.right) rfl
  have p4 := HRG1.out.cell 5 (.string z1.p.high) rfl
  have p5 := HRG1.out.cell 6 (.slice z1.ao z1.p.items.length z1.cp) rfl
  rw [Nat.zero_add] at p0 p1 p2 p3 p4 p5
  go_wp2_with fail
  refine (HWI2.out _ HO1.out).mono ?_
  rintro x w2 ⟨B5, ao5, cp5, rfl, hS5, hF5, ho5, hB5⟩
  have HO2 := hide (o2 HO1.out ho5)
  have HRG2 := hide (HRG1.out.more ho5)
  have HRW2 := hide (own_keptJ HRW1.out ho5 (fun _ _ h => h))
  have HS5 : Hid (At w2 (fun k => w.heap.size ≤ k ∧ k ≠ b) ⟨Q, ao5, cp5⟩) := ⟨⟨B5, hS5, fun h0 => ⟨Nat.le_trans HO1.out.size (hB5 h0), by have h1 := hB5 h0; have h2 := HRG1.out.lt; omega⟩⟩, hF5⟩
  clear hS5 hF5 ho5 hB5 p0 p1 p2 p3 p4 p5 HRG1 HRW1 HO1 HWI2
  go_upto_region 5 with fail
  have HPG := hide (Pag.new w2 (.int .i64 Q.lsn) (.int .i64 Q.kind) (.int .i64 Q.level) (.int .i64 Q.right) (.string Q.high) (.slice ao5 Q.items.length cp5))
  have HAL := hide (onlyA w2 (.cells #[.int .i64 Q.lsn, .int .i64 Q.kind, .int .i64 Q.level, .int .i64 Q.right, .string Q.high, .slice ao5 Q.items.length cp5] 24))
  obtain ⟨w3, hw3⟩ : ∃ x, w2.alloc (.cells #[.int .i64 Q.lsn, .int .i64 Q.kind, .int .i64 Q.level, .int .i64 Q.right, .string Q.high, .slice ao5 Q.items.length cp5] 24) = x := ⟨_, rfl⟩
  rw [hw3] at HPG HAL ⊢
  clear hw3
  obtain ⟨g, hg⟩ : ∃ g, w2.heap.size = g := ⟨_, rfl⟩
  rw [hg] at HPG ⊢
  clear hg
  have HRG3 := hide (HRG2.out.more HAL.out)
  have HRW3 := hide (own_keptJ HRW2.out HAL.out (fun _ _ h => h))
  have HS3 := hide (HS5.out.more HAL.out)
  have HO3 := hide (o2 HO2.out HAL.out)
  obtain ⟨q0, q1, q2, q3, q4, q5, _⟩ := HPG.out
  have p0 := HRG3.out.cell 1 (.int .i64 z1.p.lsn) rfl
  have f0 := HRG3.out.fr 1 (by simp [imc, Pz.c])
  have p1 := HRG3.out.cell 2 (.int .i64 z1.p.kind) rfl
  have f1 := HRG3.out.fr 2 (by simp [imc, Pz.c])
  have p2 := HRG3.out.cell 3 (.int .i64 z1.p.level) rfl
  have f2 := HRG3.out.fr 3 (by simp [imc, Pz.c])
  have p3 := HRG3.out.cell 4 (.int .i64 z1.p.right) rfl
  have f3 := HRG3.out.fr 4 (by simp [imc, Pz.c])
  have p4 := HRG3.out.cell 5 (.string z1.p.high) rfl
  have f4 := HRG3.out.fr 5 (by simp [imc, Pz.c])
  have p5 := HRG3.out.cell 6 (.slice z1.ao z1.p.items.length z1.cp) rfl
  have f5 := HRG3.out.fr 6 (by simp [imc, Pz.c])
  rw [Nat.zero_add] at p0 p1 p2 p3 p4 p5 f0 f1 f2 f3 f4 f5
  go_wp2_with fail
  go_ret
  obtain rfl := HQ.out
  have hp := own_put (c1 := [.int .i64 m1]) (c2 := z1.c) (c3 := imc m2 z2 ++ C3) (by have h := HRW3.out; simpa [imc] using h) (((L.ins e k).z 0 ao5 cp5).c) rfl
  have hS := (HS3.out.kept (only_setCells b (((L.ins e k).z 0 ao5 cp5).c) 1 w3) (fun k hk => hk.2)).mono (Q := fun k => w.heap.size ≤ k) (fun k hk => hk.1)
  have hp2 : (w3.setCells b 1 (((L.ins e k).z 0 ao5 cp5).c)).ownsRow base 85 7 (.slice (some ⟨b, 0, none⟩) n c) n (imc m1 ((L.ins e k).z 0 ao5 cp5) ++ imc m2 z2 ++ C3) := by simpa [imc] using hp
  exact ⟨rfl, ao5, cp5, hp2, hS, (HO3.out.mono (fun _ _ h => h.elim)).trans (only_setCells b (((L.ins e k).z 0 ao5 cp5).c) 1 w3) (fun _ _ h => h)⟩
end Go.Proofs.YthjjkhacniebiaaGreat

namespace Go.Proofs.YthjjkhacniebiaaGreat
open Go.RowKit

set_option maxRecDepth 100000 in
set_option maxHeartbeats 3200000 in
theorem layInto_right (w : World) (base b n c : Nat) (m1 m2 : Int) (L R : Nd) (ao1 ao2 : Option Addr) (cp1 cp2 : Nat) (C3 : List Value) (s : ByteArray) (e : En) (k : Int) (P : Nat → Prop) (hn : 2 ≤ n) (hr : w.ownsRow base 85 7 (.slice (some ⟨b, 0, none⟩) n c) n (imc m1 (L.z 0 ao1 cp1) ++ imc m2 (R.z 0 ao2 cp2) ++ C3)) (hL : Gd L) (hR : Gd R) (hA1 : At w P (L.z 0 ao1 cp1)) (hA2 : At w P (R.z 0 ao2 cp2)) (hv : L.lv = R.lv) (hs : brd L.lv s = some (e, k)) (he : e.ok = true) (hy : byd L.hi e = true) (hb : ¬ R.bad e) (hz : (R.ins e k).size ≤ 512) :
    Calls Tryz.prog 31 #[.slice (some ⟨b, 0, none⟩) n c, .string s] w fun x w' => x = .returned (.int .i64 0) ∧ ∃ ao' cp', w'.ownsRow base 85 7 (.slice (some ⟨b, 0, none⟩) n c) n (imc m1 (L.z 0 ao1 cp1) ++ imc m2 ((R.ins e k).z 0 ao' cp') ++ C3) ∧ At w' (fun k => w.heap.size ≤ k) ((R.ins e k).z 0 ao' cp') ∧ Only (fun k => k = b) w w' := by
  have HIB : Hid (∀ W, Only (fun _ => False) w W → Calls Tryz.prog 67 #[.agg #[.int .i64 0, .int .i64 3, .int .i64 L.lv, .int .i64 L.rt, .string (hiB L.hi), .slice ao1 L.items.length cp1], .string s] W fun x w' => x = .returned (.bool true) ∧ Only (fun _ => False) W w') := fun W ho => by
    obtain ⟨B, hS, _⟩ := hA1.strs
    have h := isBeyondB_nd W 0 L s e k B cp1 ao1 (hL.nm (hS.more ho)) hs he
    rw [hy] at h
    exact h
  have HWI : Hid (∀ W, Only (fun _ => False) w W → Calls Tryz.prog 27 #[.agg #[.int .i64 0, .int .i64 3, .int .i64 R.lv, .int .i64 R.rt, .string (hiB R.hi), .slice ao2 R.items.length cp2], .string s] W fun x w' => Res W w' x ((R.ins e k).pg 0) 0) := fun W ho => by
    obtain ⟨B, hS, _⟩ := hA2.strs
    have h := with_nd W 0 R s B cp2 ao2 (hR.nm (hS.more ho)) hA2.fit
    rw [hv] at hs
    rw [hs] at h
    unfold Nd.wiP Nd.wiK at h
    simp only [] at h
    rw [if_neg hb, if_neg (by omega), if_neg hb, if_neg (by omega)] at h
    exact h
  have HRG := hide (own_rg hr)
  have HRW := hide hr
  have HN : Hid (2 ≤ n) := hn
  clear hL hR hA1 hA2 hs he hy hb hz hr
  obtain ⟨z1, hz1⟩ : ∃ z, L.z 0 ao1 cp1 = z := ⟨_, rfl⟩
  obtain ⟨z2, hz2⟩ : ∃ z, R.z 0 ao2 cp2 = z := ⟨_, rfl⟩
  have HIB2 : Hid (∀ W, Only (fun _ => False) w W → Calls Tryz.prog 67 #[.agg (L.z 0 ao1 cp1).ar, .string s] W fun x w' => x = .returned (.bool true) ∧ Only (fun _ => False) W w') := HIB
  have HWI2 : Hid (∀ W, Only (fun _ => False) w W → Calls Tryz.prog 27 #[.agg (R.z 0 ao2 cp2).ar, .string s] W fun x w' => Res W w' x ((R.ins e k).pg 0) 0) := HWI
  clear HIB HWI
  rw [hz1] at HIB2 HRG HRW ⊢
  rw [hz2] at HRG HRW HWI2
  clear hz1 hz2
  unfold Pz.ar at HIB2 HWI2
  have hn0 : ¬ (n : Int) ≤ 0 := by have := HN.out; omega
  have hn1 : (0 : Int) < (n : Int) := by have := HN.out; omega
  have hn2 : ¬ (n : Int) ≤ 1 := by have := HN.out; omega
  have hn3 : (1 : Int) < (n : Int) := by have := HN.out; omega
  obtain ⟨Q, hQ⟩ : ∃ Q, (R.ins e k).pg 0 = Q := ⟨_, rfl⟩
  have HQ := hide hQ
  rw [hQ] at HWI2
  clear hQ hn hv
  have p0 := HRG.out.cell 1 (.int .i64 z1.p.lsn) rfl
  have p1 := HRG.out.cell 2 (.int .i64 z1.p.kind) rfl
  have p2 := HRG.out.cell 3 (.int .i64 z1.p.level) rfl
  have p3 := HRG.out.cell 4 (.int .i64 z1.p.right) rfl
  have p4 := HRG.out.cell 5 (.string z1.p.high) rfl
  have p5 := HRG.out.cell 6 (.slice z1.ao z1.p.items.length z1.cp) rfl
  rw [Nat.zero_add] at p0 p1 p2 p3 p4 p5
  go_enter Tryz.func31, Tryz.ntmps31
  go_wp2_with fail
  refine (HIB2.out _ (Only.refl _ _)).mono ?_
  rintro x w1 ⟨rfl, ho⟩
  have HO1 := hide ho
  have HRG1 := hide (HRG.out.more ho)
  have HRW1 := hide (own_keptJ HRW.out ho (fun _ _ h => h))
  clear ho p0 p1 p2 p3 p4 p5 HRG HRW HIB2
  have p0 := HRG1.out.cell 8 (.int .i64 z2.p.lsn) rfl
  have p1 := HRG1.out.cell 9 (.int .i64 z2.p.kind) rfl
  have p2 := HRG1.out.cell 10 (.int .i64 z2.p.level) rfl
  have p3 := HRG1.out.cell 11 (.int .i64 z2.p.right) rfl
  have p4 := HRG1.out.cell 12 (.string z2.p.high) rfl
  have p5 := HRG1.out.cell 13 (.slice z2.ao z2.p.items.length z2.cp) rfl
  rw [Nat.zero_add] at p0 p1 p2 p3 p4 p5
  go_wp2_with fail
  refine (HWI2.out _ HO1.out).mono ?_
  rintro x w2 ⟨B5, ao5, cp5, rfl, hS5, hF5, ho5, hB5⟩
  have HO2 := hide (o2 HO1.out ho5)
  have HRG2 := hide (HRG1.out.more ho5)
  have HRW2 := hide (own_keptJ HRW1.out ho5 (fun _ _ h => h))
  have HS5 : Hid (At w2 (fun k => w.heap.size ≤ k ∧ k ≠ b) ⟨Q, ao5, cp5⟩) := ⟨⟨B5, hS5, fun h0 => ⟨Nat.le_trans HO1.out.size (hB5 h0), by have h1 := hB5 h0; have h2 := HRG1.out.lt; omega⟩⟩, hF5⟩
  clear hS5 hF5 ho5 hB5 p0 p1 p2 p3 p4 p5 HRG1 HRW1 HO1 HWI2
  go_upto_region 5 with fail
  have HPG := hide (Pag.new w2 (.int .i64 Q.lsn) (.int .i64 Q.kind) (.int .i64 Q.level) (.int .i64 Q.right) (.string Q.high) (.slice ao5 Q.items.length cp5))
  have HAL := hide (onlyA w2 (.cells #[.int .i64 Q.lsn, .int .i64 Q.kind, .int .i64 Q.level, .int .i64 Q.right, .string Q.high, .slice ao5 Q.items.length cp5] 24))
  obtain ⟨w3, hw3⟩ : ∃ x, w2.alloc (.cells #[.int .i64 Q.lsn, .int .i64 Q.kind, .int .i64 Q.level, .int .i64 Q.right, .string Q.high, .slice ao5 Q.items.length cp5] 24) = x := ⟨_, rfl⟩
  rw [hw3] at HPG HAL ⊢
  clear hw3
  obtain ⟨g, hg⟩ : ∃ g, w2.heap.size = g := ⟨_, rfl⟩
  rw [hg] at HPG ⊢
  clear hg
  have HRG3 := hide (HRG2.out.more HAL.out)
  have HRW3 := hide (own_keptJ HRW2.out HAL.out (fun _ _ h => h))
  have HS3 := hide (HS5.out.more HAL.out)
  have HO3 := hide (o2 HO2.out HAL.out)
  obtain ⟨q0, q1, q2, q3, q4, q5, _⟩ := HPG.out
  have p0 := HRG3.out.cell 8 (.int .i64 z2.p.lsn) rfl
  have f0 := HRG3.out.fr 8 (by simp [imc, Pz.c])
  have p1 := HRG3.out.cell 9 (.int .i64 z2.p.kind) rfl
  have f1 := HRG3.out.fr 9 (by simp [imc, Pz.c])
  have p2 := HRG3.out.cell 10 (.int .i64 z2.p.level) rfl
  have f2 := HRG3.out.fr 10 (by simp [imc, Pz.c])
  have p3 := HRG3.out.cell 11 (.int .i64 z2.p.right) rfl
  have f3 := HRG3.out.fr 11 (by simp [imc, Pz.c])
  have p4 := HRG3.out.cell 12 (.string z2.p.high) rfl
  have f4 := HRG3.out.fr 12 (by simp [imc, Pz.c])
  have p5 := HRG3.out.cell 13 (.slice z2.ao z2.p.items.length z2.cp) rfl
  have f5 := HRG3.out.fr 13 (by simp [imc, Pz.c])
  rw [Nat.zero_add] at p0 p1 p2 p3 p4 p5 f0 f1 f2 f3 f4 f5
  go_wp2_with fail
  go_ret
  obtain rfl := HQ.out
  have hp := own_put (c1 := imc m1 z1 ++ [.int .i64 m2]) (c2 := z2.c) (c3 := C3) (by have h := HRW3.out; simpa [imc] using h) (((R.ins e k).z 0 ao5 cp5).c) rfl
  have hS := (HS3.out.kept (only_setCells b (((R.ins e k).z 0 ao5 cp5).c) 8 w3) (fun k hk => hk.2)).mono (Q := fun k => w.heap.size ≤ k) (fun k hk => hk.1)
  have hp2 : (w3.setCells b 8 (((R.ins e k).z 0 ao5 cp5).c)).ownsRow base 85 7 (.slice (some ⟨b, 0, none⟩) n c) n (imc m1 z1 ++ imc m2 ((R.ins e k).z 0 ao5 cp5) ++ C3) := by have e8 : (imc m1 z1 ++ [Value.int .i64 m2]).length = 8 := rfl; rw [e8] at hp; simpa [imc] using hp
  exact ⟨rfl, ao5, cp5, hp2, hS, (HO3.out.mono (fun _ _ h => h.elim)).trans (only_setCells b (((R.ins e k).z 0 ao5 cp5).c) 8 w3) (fun _ _ h => h)⟩
end Go.Proofs.YthjjkhacniebiaaGreat

namespace Go.Proofs.YthjjkhacniebiaaGreat
open Go.RowKit

/-- The halves with an item more in the one to which it belongs. -/
def Nd.nl (X : Nd) (e : En) (k : Int) (j : Nat) : Nd := if byd X.bord e = true then X.left j else (X.left j).ins e k
def Nd.nr (X : Nd) (e : En) (k : Int) : Nd := if byd X.bord e = true then X.right.ins e k else X.right
theorem Nd.good {X : Nd} {e : En} (h : ¬ X.bad e) : e.ok = true ∧ e ∉ X.es ∧ (X.lv = 0 → byd X.hi e = false) ∧ (0 < X.lv → blw X.hi e = true) := by
  unfold Nd.bad at h
  refine ⟨?_, fun q => h (.inr (.inl q)), fun v => ?_, fun v => ?_⟩
  · cases k : e.ok
    · exact absurd (.inl k) h
    · rfl
  · cases k : byd X.hi e
    · rfl
    · exact absurd (.inr (.inr (.inl ⟨v, k⟩))) h
  · cases k : blw X.hi e
    · exact absurd (.inr (.inr (.inr ⟨v, k⟩))) h
    · rfl
theorem Nd.not_bad {X : Nd} {e : En} (h1 : e.ok = true) (h2 : e ∉ X.es) (h3 : X.lv = 0 → byd X.hi e = false) (h4 : 0 < X.lv → blw X.hi e = true) : ¬ X.bad e := by
  rintro (q | q | ⟨v, q⟩ | ⟨v, q⟩)
  · rw [h1] at q; cases q
  · exact h2 q
  · rw [h3 v] at q; cases q
  · rw [h4 v] at q; cases q
theorem Nd.right_es {X : Nd} (hn : 2 ≤ X.ks.length) {e : En} (he : e ∈ X.right.es) : e ∈ X.es ∨ e = noE := by
  obtain ⟨k, hk, rfl⟩ := List.mem_map.1 he
  rcases Nd.rest_mem hn (show k ∈ X.rest from hk) with q | ⟨_, _, q⟩
  · exact .inl (List.mem_map_of_mem q)
  · exact .inr (by rw [q])
theorem Nd.Ok.bord_mem {X : Nd} (v : 0 < X.lv) (hn : 2 ≤ X.ks.length) : X.bord ∈ X.es := by
  obtain ⟨h1, e⟩ := Nd.bord_inner v hn
  rw [e]
  exact List.mem_map_of_mem (List.getElem_mem h1)
section
variable {X : Nd} {lo e : En} {k : Int}
theorem Nd.Ok.two (h : X.Ok lo) (hk : X.Kok) (hb : ¬ X.bad e) (hc : 0 < X.lv → okC k = true) (hf : 512 < (X.ins e k).size) : 13 ≤ X.ks.length ∧ (X.hi = noE → 14 ≤ X.ks.length) := by
  rw [Nd.ins_size] at hf
  exact h.full hk (Nd.good hb).1 hc hf
theorem Nd.Ok.fitsL (h : X.Ok lo) (hk : X.Kok) (hb : ¬ X.bad e) (hc : 0 < X.lv → okC k = true) (hf : 512 < (X.ins e k).size) (hy : byd X.bord e = false) (j : Nat) : ¬ (X.left j).bad e ∧ ((X.left j).ins e k).size ≤ 512 := by
  obtain ⟨g1, g2, g3, g4⟩ := Nd.good hb
  have hn : 2 ≤ X.ks.length := by have := (h.two hk hb hc hf).1; omega
  have ho := (h.bord hn).1
  refine ⟨Nd.not_bad g1 (fun q => ?_) (fun _ => hy) (fun v => ?_), ?_⟩
  · obtain ⟨x, hx, rfl⟩ := List.mem_map.1 q
    exact g2 (List.mem_map_of_mem (List.mem_of_mem_take hx))
  · refine blw_yes.2 (.inr ?_)
    show e.lt X.bord
    have v' : 0 < X.lv := v
    have ne : e ≠ X.bord := fun q => g2 (by rw [q]; exact Nd.Ok.bord_mem v' hn)
    rcases En.lt_total ne with q | q
    · exact q
    · rcases byd_no.1 hy with z | z
      · exact absurd z (En.ok_ne ho)
      · exact absurd q z
  · rw [Nd.ins_size]
    have a := h.left_size hk hn j
    have b := item_up (v := X.lv) (e := e) (c := k) g1 hc
    show (X.left j).size + (2 + (itB X.lv (e, k)).size) ≤ 512
    by_cases v : X.lv = 0
    · rw [if_pos v] at a
      have := b.2 v
      omega
    · rw [if_neg v] at a
      have := b.1
      omega
theorem Nd.Ok.fitsR (h : X.Ok lo) (hk : X.Kok) (hb : ¬ X.bad e) (hc : 0 < X.lv → okC k = true) (hf : 512 < (X.ins e k).size) : ¬ X.right.bad e ∧ (X.right.ins e k).size ≤ 512 := by
  obtain ⟨g1, g2, g3, g4⟩ := Nd.good hb
  have h13 := (h.two hk hb hc hf).1
  have hn : 2 ≤ X.ks.length := by omega
  refine ⟨Nd.not_bad g1 (fun q => ?_) g3 g4, ?_⟩
  · rcases Nd.right_es hn q with z | z
    · exact g2 z
    · exact En.ok_ne g1 z
  · rw [Nd.ins_size]
    have a := (h.right_size hk hn).2 (by omega)
    have b := (item_up (v := X.lv) (e := e) (c := k) g1 hc).1
    show X.right.size + (2 + (itB X.lv (e, k)).size) ≤ 512
    omega
end
end Go.Proofs.YthjjkhacniebiaaGreat
