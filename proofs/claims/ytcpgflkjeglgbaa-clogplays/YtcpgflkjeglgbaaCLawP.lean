/- Walk of ClogPlays. -/
import Derived.Test.YtcpgflkjeglgbaaCLawY
namespace Go.Proofs.Ytcpgflkjeglgbaa
open Go.RowKit

/-- The two pages that the loop keeps. -/
structure PP (w0 wr : World) (b1 b2 : Nat) (P : Pg) (B1 : Nat) (ao1 : Option Addr) (cp1 B2 : Nat) (ao2 : Option Addr) (cp2 : Nat) : Prop where
  p1 : PgB wr b1 P B1 ao1 cp1
  p2 : PgB wr b2 P B2 ao2 cp2
  ne : 0 < P.items.length → B1 ≠ b1 ∧ B1 ≠ b2 ∧ B2 ≠ b1 ∧ B2 ≠ b2
  bne : b1 ≠ b2
  only : Only (fun k => k = b1 ∨ k = b2) w0 wr
theorem PP.more {w0 wr wc : World} {b1 b2 : Nat} {P : Pg} {B1 cp1 B2 cp2 : Nat} {ao1 ao2 : Option Addr} (h : PP w0 wr b1 b2 P B1 ao1 cp1 B2 ao2 cp2) (ho : Only (fun _ => False) wr wc) : PP w0 wc b1 b2 P B1 ao1 cp1 B2 ao2 cp2 :=
  ⟨h.p1.more ho, h.p2.more ho, h.ne, h.bne, h.only.trans ho (fun _ _ h => h.elim)⟩
/-- Two new variables that hold the page Z, since wr. -/
structure AB (wr wc : World) (b5 b6 : Nat) (Z : Pg) (B5 : Nat) (ao5 : Option Addr) (cp5 B6 : Nat) (ao6 : Option Addr) (cp6 : Nat) : Prop where
  p5 : PgB wc b5 Z B5 ao5 cp5
  p6 : PgB wc b6 Z B6 ao6 cp6
  ho : Only (fun _ => False) wr wc
  nb : wr.heap.size ≤ b5 ∧ wr.heap.size ≤ b6
  nB : 0 < Z.items.length → wr.heap.size ≤ B5 ∧ wr.heap.size ≤ B6
theorem AB.more {wr wc wd : World} {b5 b6 : Nat} {Z : Pg} {B5 cp5 B6 cp6 : Nat} {ao5 ao6 : Option Addr} (h : AB wr wc b5 b6 Z B5 ao5 cp5 B6 ao6 cp6) (ho : Only (fun _ => False) wc wd) : AB wr wd b5 b6 Z B5 ao5 cp5 B6 ao6 cp6 :=
  ⟨h.p5.more ho, h.p6.more ho, o2 h.ho ho, h.nb, h.nB⟩
theorem PP.put {w0 wr wc : World} {b1 b2 : Nat} {P : Pg} {B1 cp1 B2 cp2 : Nat} {ao1 ao2 : Option Addr} (h : PP w0 wr b1 b2 P B1 ao1 cp1 B2 ao2 cp2) {b5 b6 : Nat} {Z : Pg} {B5 cp5 B6 cp6 : Nat} {ao5 ao6 : Option Addr} (k : AB wr wc b5 b6 Z B5 ao5 cp5 B6 ao6 cp6) :
    Pag ((((((wc.setCell ⟨b1, 0, none⟩ (.int .i64 Z.lsn)).setCell ⟨b1, 1, none⟩ (.int .i64 Z.kind)).setCell ⟨b1, 2, none⟩ (.int .i64 Z.level)).setCell ⟨b1, 3, none⟩ (.int .i64 Z.right)).setCell ⟨b1, 4, none⟩ (.string Z.high)).setCell ⟨b1, 5, none⟩ (.slice ao5 Z.items.length cp5)) b2 (.int .i64 P.lsn) (.int .i64 P.kind) (.int .i64 P.level) (.int .i64 P.right) (.string P.high) (.slice ao2 P.items.length cp2) ∧ Pag ((((((wc.setCell ⟨b1, 0, none⟩ (.int .i64 Z.lsn)).setCell ⟨b1, 1, none⟩ (.int .i64 Z.kind)).setCell ⟨b1, 2, none⟩ (.int .i64 Z.level)).setCell ⟨b1, 3, none⟩ (.int .i64 Z.right)).setCell ⟨b1, 4, none⟩ (.string Z.high)).setCell ⟨b1, 5, none⟩ (.slice ao5 Z.items.length cp5)) b6 (.int .i64 Z.lsn) (.int .i64 Z.kind) (.int .i64 Z.level) (.int .i64 Z.right) (.string Z.high) (.slice ao6 Z.items.length cp6) ∧
    PP w0 ((((((((((((wc.setCell ⟨b1, 0, none⟩ (.int .i64 Z.lsn)).setCell ⟨b1, 1, none⟩ (.int .i64 Z.kind)).setCell ⟨b1, 2, none⟩ (.int .i64 Z.level)).setCell ⟨b1, 3, none⟩ (.int .i64 Z.right)).setCell ⟨b1, 4, none⟩ (.string Z.high)).setCell ⟨b1, 5, none⟩ (.slice ao5 Z.items.length cp5)).setCell ⟨b2, 0, none⟩ (.int .i64 Z.lsn)).setCell ⟨b2, 1, none⟩ (.int .i64 Z.kind)).setCell ⟨b2, 2, none⟩ (.int .i64 Z.level)).setCell ⟨b2, 3, none⟩ (.int .i64 Z.right)).setCell ⟨b2, 4, none⟩ (.string Z.high)).setCell ⟨b2, 5, none⟩ (.slice ao6 Z.items.length cp6)) b1 b2 Z B5 ao5 cp5 B6 ao6 cp6 := by
  have l1 := h.p1.pag.lt
  have l2 := h.p2.pag.lt
  have o1 := Only.six wc b1 (.int .i64 Z.lsn) (.int .i64 Z.kind) (.int .i64 Z.level) (.int .i64 Z.right) (.string Z.high) (.slice ao5 Z.items.length cp5)
  have hb := k.nb
  have hne := h.bne
  have q1 := PgB.put (h.p1.pag.more k.ho) k.p5.strs k.p5.fit (fun hz => by have := (k.nB hz).1; omega)
  have q2 := (h.p2.pag.more k.ho).kept o1 (fun e => hne e.symm)
  have q6 := k.p6.kept o1 (by omega) (fun hz => by have := (k.nB hz).2; omega)
  have o2' := Only.six ((((((wc.setCell ⟨b1, 0, none⟩ (.int .i64 Z.lsn)).setCell ⟨b1, 1, none⟩ (.int .i64 Z.kind)).setCell ⟨b1, 2, none⟩ (.int .i64 Z.level)).setCell ⟨b1, 3, none⟩ (.int .i64 Z.right)).setCell ⟨b1, 4, none⟩ (.string Z.high)).setCell ⟨b1, 5, none⟩ (.slice ao5 Z.items.length cp5)) b2 (.int .i64 Z.lsn) (.int .i64 Z.kind) (.int .i64 Z.level) (.int .i64 Z.right) (.string Z.high) (.slice ao6 Z.items.length cp6)
  refine ⟨q2, q6.pag, ⟨q1.kept o2' hne (fun hz => by have := (k.nB hz).1; omega), PgB.put q2 q6.strs q6.fit (fun hz => by have := (k.nB hz).2; omega), fun hz => ?_, hne, ?_⟩⟩
  · have := k.nB hz
    omega
  · exact ((h.only.trans k.ho (fun _ _ h => h.elim)).trans o1 (fun _ _ e => .inl e)).trans o2' (fun _ _ e => .inr e)
set_option maxRecDepth 100000 in
set_option maxHeartbeats 6400000 in
theorem plays_law (w : World) (m fr : Int) (BO : Nat) (aO : Option Addr) (n cap : Nat) (C : Nat → Bool) (X : Nat → Int) (S : Nat → Nat) (hm : I64 m) (hfr : I64 fr) (hI : Ops w BO aO n C X S) :
    Calls Try.prog 4 #[.int .i64 m, .int .i64 fr, .slice aO n cap] w fun e w' => e = .returned (.bool true) ∧ Only (fun _ => False) w w' := by
  have HB1 := hide (fun W => cblank_any W m fr hm hfr)
  have HB2 := hide (fun W => kblank_any W m fr hm hfr)
  have hm1 := hm.1
  have hm2 := hm.2
  have hf1 := hfr.1
  have hf2 := hfr.2
  have HIM := hide hm
  have HOPS := hide hI
  have hn := hI.len
  have hc01 : blankC m fr = 0 ∨ blankC m fr = 1 := by unfold blankC; split; exact .inl rfl; exact .inr rfl
  obtain ⟨P0, hP0⟩ : ∃ P, blankR m fr = P := ⟨_, rfl⟩
  obtain ⟨c0, hc0⟩ : ∃ c, blankC m fr = c := ⟨_, rfl⟩
  simp only [hP0, hc0] at HB1 HB2 hc01
  clear hP0 hc0 hm hfr hI
  go_enter Try.func4, Try.ntmps4
  go_wp2_with fail
  refine (HB1.out _).mono ?_
  rintro e w1 ⟨B1, ao1, cp1, rfl, hS1, hF1, ho1, hB1⟩
  have HP1 := hide (PgB.new hS1 hF1)
  have HO1 := hide (o2 ho1 (onlyA w1 (.cells #[.int .i64 P0.lsn, .int .i64 P0.kind, .int .i64 P0.level, .int .i64 P0.right, .string P0.high, .slice ao1 P0.items.length cp1] 24)))
  have HL1 : Hid (w.heap.size ≤ w1.heap.size ∧ (0 < P0.items.length → B1 < w1.heap.size)) := ⟨ho1.size, hS1.lt⟩
  clear hS1 hF1 hB1 ho1
  go_upto_region 2 with fail
  obtain ⟨b1, hb⟩ : ∃ b, w1.heap.size = b := ⟨_, rfl⟩
  obtain ⟨W1, hW⟩ : ∃ W, w1.alloc (.cells #[.int .i64 P0.lsn, .int .i64 P0.kind, .int .i64 P0.level, .int .i64 P0.right, .string P0.high, .slice ao1 P0.items.length cp1] 24) = W := ⟨_, rfl⟩
  rw [hW] at HP1 HO1 ⊢
  rw [hb] at HP1 HL1 ⊢
  clear hW hb
  go_wp2_with fail
  refine (HB2.out _).mono ?_
  rintro e w2 ⟨B2, ao2, cp2, rfl, hS2, hF2, ho2, hB2⟩
  have HW1L : Hid (b1 < W1.heap.size) := HP1.out.pag.lt
  have HP2 := hide (PgB.new hS2 hF2)
  have HN := hide (onlyA w2 (.cells #[.int .i64 P0.lsn, .int .i64 P0.kind, .int .i64 P0.level, .int .i64 P0.right, .string P0.high, .slice ao2 P0.items.length cp2] 24))
  have HP1 := hide (HP1.out.more (o2 ho2 HN.out))
  have HO2 := hide (o2 HO1.out (o2 ho2 HN.out))
  have HL2 : Hid (b1 < w2.heap.size ∧ (0 < P0.items.length → B2 < w2.heap.size ∧ b1 < B2)) := ⟨(by have := HO1.out.size; have := ho2.size; have := HP1.out.pag.lt; have h := HW1L.out; omega), fun h => ⟨hS2.lt h, by have := hB2 h; have h := HW1L.out; omega⟩⟩
  clear hS2 hF2 hB2 ho2
  go_upto_region 3 with fail
  obtain ⟨b2, hb⟩ : ∃ b, w2.heap.size = b := ⟨_, rfl⟩
  obtain ⟨W2, hW⟩ : ∃ W, w2.alloc (.cells #[.int .i64 P0.lsn, .int .i64 P0.kind, .int .i64 P0.level, .int .i64 P0.right, .string P0.high, .slice ao2 P0.items.length cp2] 24) = W := ⟨_, rfl⟩
  rw [hW] at HP1 HP2 HN HO2 ⊢
  rw [hb] at HP2 HL2 ⊢
  clear hW hb
  have HPP : Hid (PP W2 W2 b1 b2 P0 B1 ao1 cp1 B2 ao2 cp2) := ⟨HP1.out, HP2.out, fun h => by have := HL1.out.2 h; have := HL2.out.2 h; have := HL2.out.1; omega, by have := HL2.out.1; omega, Only.refl _ _⟩
  have HBW : Hid (w.heap.size ≤ b1 ∧ w.heap.size ≤ b2) := by unfold Hid; have := HL1.out.1; have := HL2.out.1; omega
  obtain ⟨xp0, xp1, xp2, xp3, xp4, xp5, xf0, xf1, xf2, xf3, xf4, xf5, xfl⟩ := HP1.out.pag
  obtain ⟨yp0, yp1, yp2, yp3, yp4, yp5, yf0, yf1, yf2, yf3, yf4, yf5, yfl⟩ := HP2.out.pag
  go_wp2_with fail
  refine (same_self P0 _ _ _ _ _ _ _ HP1.out.strs HP2.out.strs).mono ?_
  rintro e w3 ⟨rfl, ho⟩
  have HPP := hide (HPP.out.more ho)
  have HO3 := hide (o2 HO2.out ho)
  clear xp0 xf0 xp1 xf1 xp2 xf2 xp3 xf3 xp4 xf4 xp5 xf5 xfl
  clear yp0 yf0 yp1 yf1 yp2 yf2 yp3 yf3 yp4 yf4 yp5 yf5 yfl
  clear ho HP1 HP2 HL1 HL2 HN HO1
  have HPP : Hid (PP w3 w3 b1 b2 P0 B1 ao1 cp1 B2 ao2 cp2) := ⟨HPP.out.p1, HPP.out.p2, HPP.out.ne, HPP.out.bne, Only.refl _ _⟩
  go_wp2_with fail
  go_loopw [11] (fun t wr => ∃ (i : Nat) (P : Pg) (D1 : Nat) (do1 : Option Addr) (dp1 D2 : Nat) (do2 : Option Addr) (dp2 : Nat), i ≤ n ∧ t = .int .i64 (i : Int) ∧ Hid (PP w3 wr b1 b2 P D1 do1 dp1 D2 do2 dp2)) (fun t _ => n - (intOf t).toNat)
  case atStart => exact ⟨0, P0, _, _, _, _, _, _, by omega, rfl, HPP⟩
  case round =>
    obtain ⟨i, P, B1, ao1, cp1, B2, ao2, cp2, hi, rfl, HV⟩ := hrel
    have HOW : Hid (Only (fun _ => False) w wr) := HO3.out.trans HV.out.only (fun i hi e => by have := HBW.out; omega)
    have HOPW := hide (HOPS.out.more HOW.out)
    by_cases hlt : i < n ∧ c0 = 0
    · obtain ⟨hlt, hc0⟩ := hlt
      subst hc0
      obtain ⟨oO, eO, hcO⟩ := HOPW.out.at_ (by omega)
      subst eO
      obtain ⟨g0, g1, g2⟩ := hcO i hlt
      obtain ⟨wfx, wfs⟩ := HOPW.out.wf i hlt
      have e0 : (⟨P.lsn, P.kind, P.level, P.right, P.high, P.items⟩ : Pg) = P := rfl
      have S1 := hide (fun W B ao cp (hS : Strs W B ao P.items) => cset_any W m P.lsn P.kind P.level P.right (X i) P.high cp B ao P.items (S i) HIM.out wfx hS wfs)
      have S2 := hide (fun W B ao cp (hS : Strs W B ao P.items) => kset_any W m P.lsn P.kind P.level P.right (X i) P.high cp B ao P.items (S i) HIM.out wfx hS wfs)
      have T1 := hide (fun W B ao cp (hS : Strs W B ao P.items) => ccut_any W m P.lsn P.kind P.level P.right (X i) P.high cp B ao P.items HIM.out wfx hS)
      have T2 := hide (fun W B ao cp (hS : Strs W B ao P.items) => kcut_any W m P.lsn P.kind P.level P.right (X i) P.high cp B ao P.items HIM.out wfx hS)
      simp only [e0] at S1 S2 T1 T2
      have bA := setC_bd m P (X i) (S i)
      have bT := cid_bd m P (X i)
      obtain ⟨A, hA⟩ : ∃ y, setR m P (X i) (S i) = y := ⟨_, rfl⟩
      obtain ⟨ka, hka⟩ : ∃ y, setC m P (X i) (S i) = y := ⟨_, rfl⟩
      obtain ⟨T, hT⟩ : ∃ y, cutR m P (X i) = y := ⟨_, rfl⟩
      obtain ⟨kt, hkt⟩ : ∃ y, cid m P (X i) = y := ⟨_, rfl⟩
      simp only [hA, hka] at S1 S2 bA
      simp only [hT, hkt] at T1 T2 bT
      obtain ⟨xi, hxi⟩ : ∃ y, X i = y := ⟨_, rfl⟩
      obtain ⟨si, hsi⟩ : ∃ y, S i = y := ⟨_, rfl⟩
      obtain ⟨ci, hci⟩ : ∃ y, C i = y := ⟨_, rfl⟩
      simp only [hxi, hsi] at S1 S2 T1 T2
      rw [hci] at g0
      rw [hxi] at g1 wfx
      rw [hsi] at g2 wfs
      have wx1 := wfx.1
      have wx2 := wfx.2
      clear e0 hA hka hT hkt hxi hsi hci hcO wfx
      have hin : (i : Int) < (n : Int) := by omega
      go_upto_region 9 with fail
      have HPX := hide (Opx.new wr ci xi si)
      have HNX := hide (onlyA wr (.cells #[.bool ci, .int .i64 xi, .int .u8 (si : Int)] 27))
      obtain ⟨bx, hb⟩ : ∃ b, wr.heap.size = b := ⟨_, rfl⟩
      have HZ := hide hb
      obtain ⟨WX, hW⟩ : ∃ W, wr.alloc (.cells #[.bool ci, .int .i64 xi, .int .u8 (si : Int)] 27) = W := ⟨_, rfl⟩
      rw [hW] at HPX HNX ⊢
      rw [hb] at HPX ⊢
      clear hW hb g0 g1 g2
      have HR := HNX
      have HVX := hide (HV.out.more HR.out)
      obtain ⟨zp0, zp1, zp2, zp3, zp4, zp5, zf0, zf1, zf2, zf3, zf4, zf5, zfl⟩ := HVX.out.p1.pag
      obtain ⟨xc0, xc1, xc2, xcl⟩ := HPX.out
      go_wp2_with fail
      refine (S1.out _ _ _ _ HVX.out.p1.strs).mono ?_
      rintro e w5 ⟨B5, ao5, cp5, rfl, hS5, hF5, ho5, hB5⟩
      clear zp0 zf0 zp1 zf1 zp2 zf2 zp3 zf3 zp4 zf4 zp5 zf5 zfl
      clear xc0 xc1 xc2 xcl
      have HP5 := hide (PgB.new hS5 hF5)
      have HN := hide (onlyA w5 (.cells #[.int .i64 A.lsn, .int .i64 A.kind, .int .i64 A.level, .int .i64 A.right, .string A.high, .slice ao5 A.items.length cp5] 24))
      have HE5 : Hid (wr.heap.size ≤ w5.heap.size ∧ bx < w5.heap.size ∧ (0 < A.items.length → wr.heap.size ≤ B5 ∧ B5 < w5.heap.size)) := by
        refine ⟨(o2 HR.out ho5).size, Nat.lt_of_lt_of_le HPX.out.lt ho5.size, fun h => ⟨?_, hS5.lt h⟩⟩
        have := hB5 h
        have := HR.out.size
        omega
      have HR := hide (o2 HR.out (o2 ho5 HN.out))
      have HPX := hide (HPX.out.more (o2 ho5 HN.out))
      clear hS5 hF5 hB5 ho5 HVX
      go_upto_region 10 with fail
      obtain ⟨b5, hb⟩ : ∃ b, w5.heap.size = b := ⟨_, rfl⟩
      obtain ⟨W5, hW⟩ : ∃ W, w5.alloc (.cells #[.int .i64 A.lsn, .int .i64 A.kind, .int .i64 A.level, .int .i64 A.right, .string A.high, .slice ao5 A.items.length cp5] 24) = W := ⟨_, rfl⟩
      rw [hW] at HP5 HN HR HPX ⊢
      rw [hb] at HP5 HE5 ⊢
      clear hW hb
      have HVX := hide (HV.out.more HR.out)
      have HW5 : Hid (b5 < W5.heap.size) := HP5.out.pag.lt
      obtain ⟨zp0, zp1, zp2, zp3, zp4, zp5, zf0, zf1, zf2, zf3, zf4, zf5, zfl⟩ := HVX.out.p2.pag
      obtain ⟨xc0, xc1, xc2, xcl⟩ := HPX.out
      go_wp2_with fail
      refine (S2.out _ _ _ _ HVX.out.p2.strs).mono ?_
      rintro e w6 ⟨B6, ao6, cp6, rfl, hS6, hF6, ho6, hB6⟩
      clear zp0 zf0 zp1 zf1 zp2 zf2 zp3 zf3 zp4 zf4 zp5 zf5 zfl
      clear xc0 xc1 xc2 xcl
      have HP6 := hide (PgB.new hS6 hF6)
      have HN := hide (onlyA w6 (.cells #[.int .i64 A.lsn, .int .i64 A.kind, .int .i64 A.level, .int .i64 A.right, .string A.high, .slice ao6 A.items.length cp6] 24))
      have HE6 : Hid (b5 < w6.heap.size ∧ (0 < A.items.length → b5 < B6 ∧ B6 < w6.heap.size)) := ⟨Nat.lt_of_lt_of_le HW5.out ho6.size, fun h => ⟨by have := hB6 h; have := HW5.out; omega, hS6.lt h⟩⟩
      have HR := hide (o2 HR.out (o2 ho6 HN.out))
      have HPX := hide (HPX.out.more (o2 ho6 HN.out))
      have HP5 := hide (HP5.out.more (o2 ho6 HN.out))
      clear hS6 hF6 hB6 ho6 HVX
      go_upto_region 11 with fail
      obtain ⟨b6, hb⟩ : ∃ b, w6.heap.size = b := ⟨_, rfl⟩
      obtain ⟨W6, hW⟩ : ∃ W, w6.alloc (.cells #[.int .i64 A.lsn, .int .i64 A.kind, .int .i64 A.level, .int .i64 A.right, .string A.high, .slice ao6 A.items.length cp6] 24) = W := ⟨_, rfl⟩
      rw [hW] at HP5 HP6 HN HR HPX ⊢
      rw [hb] at HP6 HE6 ⊢
      clear hW hb
      cases ci with
      | false =>
        have HAB : Hid (AB wr W6 b5 b6 A B5 ao5 cp5 B6 ao6 cp6) := ⟨HP5.out, HP6.out, HR.out, by have := HE5.out; have := HE6.out; omega, fun h => by have := HE5.out.2.2 h; have := HE6.out.2 h; have := HE5.out; omega⟩
        clear HP5 HP6 HE5 HE6 HN
        obtain ⟨tc0, tc1, tc2, tcl⟩ := HPX.out
        go_upto_region 14 with fail
        clear tc0 tc1 tc2 tcl
        obtain ⟨xp0, xp1, xp2, xp3, xp4, xp5, xf0, xf1, xf2, xf3, xf4, xf5, xfl⟩ := HAB.out.p5.pag
        obtain ⟨yp0, yp1, yp2, yp3, yp4, yp5, yf0, yf1, yf2, yf3, yf4, yf5, yfl⟩ := HAB.out.p6.pag
        go_wp2_with fail
        refine (same_self A _ _ _ _ _ _ _ HAB.out.p5.strs HAB.out.p6.strs).mono ?_
        rintro e w9 ⟨rfl, ho⟩
        clear xp0 xf0 xp1 xf1 xp2 xf2 xp3 xf3 xp4 xf4 xp5 xf5 xfl
        clear yp0 yf0 yp1 yf1 yp2 yf2 yp3 yf3 yp4 yf4 yp5 yf5 yfl
        have HAB := hide (HAB.out.more ho)
        clear ho
        by_cases hz : ka = 0
        · subst hz
          obtain ⟨pq2, pq6, pp⟩ := HV.out.put HAB.out
          have HPPN := hide pp
          have HQ2 := hide pq2
          have HQ6 := hide pq6
          clear pp pq2 pq6 bA
          obtain ⟨xp0, xp1, xp2, xp3, xp4, xp5, xf0, xf1, xf2, xf3, xf4, xf5, xfl⟩ := HAB.out.p5.pag
          obtain ⟨yp0, yp1, yp2, yp3, yp4, yp5, yf0, yf1, yf2, yf3, yf4, yf5, yfl⟩ := (HV.out.p1.pag.more HAB.out.ho)
          go_upto_region 18 with fail
          clear xp0 xf0 xp1 xf1 xp2 xf2 xp3 xf3 xp4 xf4 xp5 xf5 xfl
          clear yp0 yf0 yp1 yf1 yp2 yf2 yp3 yf3 yp4 yf4 yp5 yf5 yfl
          obtain ⟨W10, hW⟩ : ∃ W, ((((((w9.setCell ⟨b1, 0, none⟩ (.int .i64 A.lsn)).setCell ⟨b1, 1, none⟩ (.int .i64 A.kind)).setCell ⟨b1, 2, none⟩ (.int .i64 A.level)).setCell ⟨b1, 3, none⟩ (.int .i64 A.right)).setCell ⟨b1, 4, none⟩ (.string A.high)).setCell ⟨b1, 5, none⟩ (.slice ao5 A.items.length cp5)) = W := ⟨_, rfl⟩
          rw [hW] at HPPN HQ2 HQ6 ⊢
          clear hW
          obtain ⟨xp0, xp1, xp2, xp3, xp4, xp5, xf0, xf1, xf2, xf3, xf4, xf5, xfl⟩ := HQ2.out
          obtain ⟨yp0, yp1, yp2, yp3, yp4, yp5, yf0, yf1, yf2, yf3, yf4, yf5, yfl⟩ := HQ6.out
          go_wp2_with fail
          go_roundw
          case rel => exact ⟨i + 1, A, _, _, _, _, _, _, by omega, by go_num, HPPN⟩
          case measure => simp [intOf]; omega
        · have hzb : (ka == 0) = false := by simp [hz]
          have HPPN := hide (HV.out.more HAB.out.ho)
          clear hz
          go_wp2_with fail
          go_roundw
          case rel => exact ⟨i + 1, P, _, _, _, _, _, _, by omega, by go_num, HPPN⟩
          case measure => simp [intOf]; omega
      | true =>
        have HVX := hide (HV.out.more HR.out)
        have HW6 : Hid (b6 < W6.heap.size) := HP6.out.pag.lt
        have HQ5 := hide HP5.out.pag
        have HQ6 := hide HP6.out.pag
        have HB56 : Hid (wr.heap.size ≤ b5 ∧ b5 < b6 ∧ bx < b5) := by unfold Hid; have := HE5.out.1; have := HE5.out.2.1; have := HE6.out.1; omega
        clear HP5 HP6 HE5 HE6 HN
        obtain ⟨tc0, tc1, tc2, tcl⟩ := HPX.out
        go_upto_region 12 with fail
        obtain ⟨zp0, zp1, zp2, zp3, zp4, zp5, zf0, zf1, zf2, zf3, zf4, zf5, zfl⟩ := HVX.out.p1.pag
        go_wp2_with fail
        refine (T1.out _ _ _ _ HVX.out.p1.strs).mono ?_
        rintro e w7 ⟨B7, ao7, cp7, rfl, hS7, hF7, ho7, hB7⟩
        clear zp0 zf0 zp1 zf1 zp2 zf2 zp3 zf3 zp4 zf4 zp5 zf5 zfl
        clear tc0 tc1 tc2 tcl
        have HQ5 := hide (HQ5.out.more ho7)
        have HQ6 := hide (HQ6.out.more ho7)
        have HPX := hide (HPX.out.more ho7)
        have HBB7 : Hid (0 < T.items.length → b6 < B7) := fun h => by have := hB7 h; have := HW6.out; omega
        have HP5 := hide (PgB.put (p := T) HQ5.out hS7 hF7 (fun h => by have := HBB7.out h; have := HB56.out; omega))
        have HU := hide (Only.six w7 b5 (.int .i64 T.lsn) (.int .i64 T.kind) (.int .i64 T.level) (.int .i64 T.right) (.string T.high) (.slice ao7 T.items.length cp7))
        have HQ6 := hide (HQ6.out.kept HU.out (by have := HB56.out; omega))
        have HPX := hide (HPX.out.kept HU.out (by have := HB56.out; have := HZ.out; omega))
        have HR : Hid (Only (fun _ => False) wr _) := (o2 HR.out ho7).trans HU.out (fun i hi e => by have := HB56.out; omega)
        have HW7 : Hid (W6.heap.size ≤ w7.heap.size) := ho7.size
        clear hS7 hF7 hB7 ho7 HVX
        obtain ⟨zp0, zp1, zp2, zp3, zp4, zp5, zf0, zf1, zf2, zf3, zf4, zf5, zfl⟩ := HQ5.out
        go_upto_region 13 with fail
        clear zp0 zf0 zp1 zf1 zp2 zf2 zp3 zf3 zp4 zf4 zp5 zf5 zfl
        obtain ⟨W7, hW⟩ : ∃ W, ((((((w7.setCell ⟨b5, 0, none⟩ (.int .i64 T.lsn)).setCell ⟨b5, 1, none⟩ (.int .i64 T.kind)).setCell ⟨b5, 2, none⟩ (.int .i64 T.level)).setCell ⟨b5, 3, none⟩ (.int .i64 T.right)).setCell ⟨b5, 4, none⟩ (.string T.high)).setCell ⟨b5, 5, none⟩ (.slice ao7 T.items.length cp7)) = W := ⟨_, rfl⟩
        rw [hW] at HP5 HU HQ6 HPX HR ⊢
        clear hW HQ5
        have HVX := hide (HV.out.more HR.out)
        have HW7 : Hid (b6 < W7.heap.size) := HQ6.out.lt
        obtain ⟨zp0, zp1, zp2, zp3, zp4, zp5, zf0, zf1, zf2, zf3, zf4, zf5, zfl⟩ := HVX.out.p2.pag
        obtain ⟨tc0, tc1, tc2, tcl⟩ := HPX.out
        go_wp2_with fail
        refine (T2.out _ _ _ _ HVX.out.p2.strs).mono ?_
        rintro e w8 ⟨B8, ao8, cp8, rfl, hS8, hF8, ho8, hB8⟩
        clear zp0 zf0 zp1 zf1 zp2 zf2 zp3 zf3 zp4 zf4 zp5 zf5 zfl
        clear tc0 tc1 tc2 tcl
        have HQ6 := hide (HQ6.out.more ho8)
        have HP5 := hide (HP5.out.more ho8)
        have HBB8 : Hid (0 < T.items.length → b6 < B8) := fun h => by have := hB8 h; have := HW7.out; omega
        have HP6 := hide (PgB.put (p := T) HQ6.out hS8 hF8 (fun h => by have := HBB8.out h; omega))
        have HU := hide (Only.six w8 b6 (.int .i64 T.lsn) (.int .i64 T.kind) (.int .i64 T.level) (.int .i64 T.right) (.string T.high) (.slice ao8 T.items.length cp8))
        have HP5 := hide (HP5.out.kept HU.out (by have := HB56.out; omega) (fun h => by have := HBB7.out h; omega))
        have HR : Hid (Only (fun _ => False) wr _) := (o2 HR.out ho8).trans HU.out (fun i hi e => by have := HB56.out; omega)
        clear hS8 hF8 hB8 ho8 HVX
        obtain ⟨zp0, zp1, zp2, zp3, zp4, zp5, zf0, zf1, zf2, zf3, zf4, zf5, zfl⟩ := HQ6.out
        go_upto_region 14 with fail
        clear zp0 zf0 zp1 zf1 zp2 zf2 zp3 zf3 zp4 zf4 zp5 zf5 zfl
        obtain ⟨W8, hW⟩ : ∃ W, ((((((w8.setCell ⟨b6, 0, none⟩ (.int .i64 T.lsn)).setCell ⟨b6, 1, none⟩ (.int .i64 T.kind)).setCell ⟨b6, 2, none⟩ (.int .i64 T.level)).setCell ⟨b6, 3, none⟩ (.int .i64 T.right)).setCell ⟨b6, 4, none⟩ (.string T.high)).setCell ⟨b6, 5, none⟩ (.slice ao8 T.items.length cp8)) = W := ⟨_, rfl⟩
        rw [hW] at HP5 HP6 HU HR ⊢
        clear hW HQ6
        have HAB : Hid (AB wr W8 b5 b6 T B7 ao7 cp7 B8 ao8 cp8) := ⟨HP5.out, HP6.out, HR.out, by have := HB56.out; omega, fun h => by have := HBB7.out h; have := HBB8.out h; have := HB56.out; omega⟩
        clear HP5 HP6 HU
        obtain ⟨xp0, xp1, xp2, xp3, xp4, xp5, xf0, xf1, xf2, xf3, xf4, xf5, xfl⟩ := HAB.out.p5.pag
        obtain ⟨yp0, yp1, yp2, yp3, yp4, yp5, yf0, yf1, yf2, yf3, yf4, yf5, yfl⟩ := HAB.out.p6.pag
        go_wp2_with fail
        refine (same_self T _ _ _ _ _ _ _ HAB.out.p5.strs HAB.out.p6.strs).mono ?_
        rintro e w9 ⟨rfl, ho⟩
        clear xp0 xf0 xp1 xf1 xp2 xf2 xp3 xf3 xp4 xf4 xp5 xf5 xfl
        clear yp0 yf0 yp1 yf1 yp2 yf2 yp3 yf3 yp4 yf4 yp5 yf5 yfl
        have HAB := hide (HAB.out.more ho)
        clear ho
        by_cases hz : kt = 0
        · subst hz
          obtain ⟨pq2, pq6, pp⟩ := HV.out.put HAB.out
          have HPPN := hide pp
          have HQ2 := hide pq2
          have HQ6 := hide pq6
          clear pp pq2 pq6 bT
          obtain ⟨xp0, xp1, xp2, xp3, xp4, xp5, xf0, xf1, xf2, xf3, xf4, xf5, xfl⟩ := HAB.out.p5.pag
          obtain ⟨yp0, yp1, yp2, yp3, yp4, yp5, yf0, yf1, yf2, yf3, yf4, yf5, yfl⟩ := (HV.out.p1.pag.more HAB.out.ho)
          go_upto_region 18 with fail
          clear xp0 xf0 xp1 xf1 xp2 xf2 xp3 xf3 xp4 xf4 xp5 xf5 xfl
          clear yp0 yf0 yp1 yf1 yp2 yf2 yp3 yf3 yp4 yf4 yp5 yf5 yfl
          obtain ⟨W10, hW⟩ : ∃ W, ((((((w9.setCell ⟨b1, 0, none⟩ (.int .i64 T.lsn)).setCell ⟨b1, 1, none⟩ (.int .i64 T.kind)).setCell ⟨b1, 2, none⟩ (.int .i64 T.level)).setCell ⟨b1, 3, none⟩ (.int .i64 T.right)).setCell ⟨b1, 4, none⟩ (.string T.high)).setCell ⟨b1, 5, none⟩ (.slice ao7 T.items.length cp7)) = W := ⟨_, rfl⟩
          rw [hW] at HPPN HQ2 HQ6 ⊢
          clear hW
          obtain ⟨xp0, xp1, xp2, xp3, xp4, xp5, xf0, xf1, xf2, xf3, xf4, xf5, xfl⟩ := HQ2.out
          obtain ⟨yp0, yp1, yp2, yp3, yp4, yp5, yf0, yf1, yf2, yf3, yf4, yf5, yfl⟩ := HQ6.out
          go_wp2_with fail
          go_roundw
          case rel => exact ⟨i + 1, T, _, _, _, _, _, _, by omega, by go_num, HPPN⟩
          case measure => simp [intOf]; omega
        · have hzb : (kt == 0) = false := by simp [hz]
          have HPPN := hide (HV.out.more HAB.out.ho)
          clear hz
          go_wp2_with fail
          go_roundw
          case rel => exact ⟨i + 1, P, _, _, _, _, _, _, by omega, by go_num, HPPN⟩
          case measure => simp [intOf]; omega
    · by_cases hc : c0 = 0
      · have hin : ¬ (i : Int) < (n : Int) := fun h => hlt ⟨by omega, hc⟩
        clear hc hlt
        go_wp2_with fail
        refine (cawake_any _).mono ?_
        rintro e w9 ⟨rfl, ho⟩
        have HO := hide (o2 HOW.out ho)
        clear ho
        go_wp2_with fail
        go_ret
        exact ⟨rfl, HO.out⟩
      · have hcb : (c0 == 0) = false := by simp [hc]
        clear hc hlt hc01
        by_cases hin : (i : Int) < (n : Int)
        · clear hi
          go_wp2_with fail
          refine (cawake_any _).mono ?_
          rintro e w9 ⟨rfl, ho⟩
          have HO := hide (o2 HOW.out ho)
          clear ho
          go_wp2_with fail
          go_ret
          exact ⟨rfl, HO.out⟩
        · clear hi
          go_wp2_with fail
          refine (cawake_any _).mono ?_
          rintro e w9 ⟨rfl, ho⟩
          have HO := hide (o2 HOW.out ho)
          clear ho
          go_wp2_with fail
          go_ret
          exact ⟨rfl, HO.out⟩
end Go.Proofs.Ytcpgflkjeglgbaa
