/- TxnAlone: its walk. -/
import Derived.Test.YtmcghpeamnmbpaaOOpen
import Derived.Test.YtmcghpeamnmbpaaOSame2
namespace Go.Proofs.Ytmcghpeamnmbpaa
open Go.RowKit Go.Maps

theorem eqB_one {f : Tt} {B C : List (Int × Int)} (h : BgIs f B) (k : BgIs f C) : C = B := h.one k
set_option maxRecDepth 100000 in
set_option maxHeartbeats 6400000 in
theorem alone_law (w : World) (B0 cp0 : Nat) (ao0 : Option Addr) (L0 : List Oq) (hI0 : Oqs w.heap.size w B0 ao0 L0) (B1 cp1 : Nat) (ao1 : Option Addr) (L1 : List Oq) (hI1 : Oqs w.heap.size w B1 ao1 L1) (who : Int) (hwho : N64 who) : Calls Try.prog 4 #[.slice ao0 L0.length cp0, .slice ao1 L1.length cp1, .int .i64 who] w fun e w' => e = .returned (.bool true) ∧ Only (fun _ => False) w w' := by
  have HAW := hide (fun W => awake_any W)
  have HN := hide (lw_new w w (Nat.le_refl _) (fun _ => False) (fun _ h => h.elim))
  have hlen0 := hI0.len
  have hlen1 := hI1.len
  have HI0 := hide hI0
  have HI1 := hide hI1
  have HWH := hide hwho
  clear hI0 hI1 hwho
  go_enter Try.func4, Try.ntmps4
  go_wp2_with fail
  refine HN.out.mono ?_
  rintro e w1 ⟨t, rfl, h1, ho1⟩
  have HT1 := hide h1
  have HO1 := hide ho1
  clear h1 ho1 HN
  go_wp2_with fail
  go_loopw [8] (fun y wr => ∃ (i : Nat) (f : Tt), i ≤ L0.length ∧ y = .int .i64 (i : Int) ∧ Hid (Lw w (fun _ => False) wr t f i) ∧ Hid (Only (fun _ => False) w wr)) (fun y _ => L0.length - (intOf y).toNat)
  case atStart => exact ⟨0, Tt.none, by omega, rfl, HT1, HO1⟩
  case round =>
    obtain ⟨i, f, hi, rfl, HT, HO⟩ := hrel
    by_cases hlt : i < L0.length
    · have hIr := HI0.out.more HO.out
      obtain ⟨o, rfl, hcell⟩ := hIr.at_ (by omega)
      have hok := hIr.ok L0[i] (List.getElem_mem hlt)
      replace hcell := hcell i hlt
      obtain ⟨q, hq⟩ : ∃ q, L0[i] = q := ⟨_, rfl⟩
      rw [hq] at hcell hok
      clear hq
      obtain ⟨c, ao, cq⟩ := q
      have k0 := hcell 0 _ rfl
      have k1 := hcell 1 _ rfl
      have k2 := hcell 2 _ rfl
      have k3 := hcell 3 _ rfl
      have k4 := hcell 4 _ rfl
      have k5 := hcell 5 _ rfl
      simp only [Nat.add_zero] at k0
      have HD := hide (does_any w wr (fun _ => False) t i f HT.out (fun _ h => h.elim) (by unfold maxLen; omega) c hok.who (fun k => k < w.heap.size) ao cq hok.nm)
      unfold clv at HD
      clear hcell hok hIr
      go_wp2_with fail
      refine HD.out.mono ?_
      rintro e w2 ⟨rfl, h2, ho2⟩
      have HT2 := hide h2
      have HO2 : Hid (Only (fun _ => False) w w2) := HO.out.trans ho2 (fun k hk h => by have := h.1; omega)
      obtain ⟨f2, hf2⟩ : ∃ g, doF f c = g := ⟨_, rfl⟩
      rw [hf2] at HT2
      clear h2 ho2 HD k0 k1 k2 k3 k4 k5 hf2 HT HO
      go_wp2_with fail
      exact ⟨⟨i + 1, f2, by omega, by go_num, HT2, HO2⟩, by simp [intOf]; omega⟩
    · have HE := hide (lw_end w wr (fun _ => False) t i f HT.out who HWH.out)
      have hi2 : i ≤ 2199023255488 := by omega
      clear HT1 HO1
      go_wp2_with fail
      refine HE.out.mono ?_
      rintro e w2 ⟨⟨a2, c2, rfl, _, _⟩, h2, ho2⟩
      have HT2 := hide h2
      have HO2 : Hid (Only (fun _ => False) w w2) := HO.out.trans ho2 (fun k hk h => by have := h.1; omega)
      have HR := hide (lw_run w w2 (fun _ => False) t (i + 1) _ h2 (by omega))
      clear h2 ho2 HE HT HO
      go_wp2_with fail
      refine HR.out.mono ?_
      rintro e w3 ⟨⟨aM, cM, M, rfl, hM, hBM, hMl⟩, ho3⟩
      have hh := HT2.out.more ho3
      have HS := hide (lw_snaps w w3 (fun _ => False) t (i + 1) _ hh (by omega))
      have HM := hide hM
      have HBM := hide hBM
      have HO3 := hide ho3
      clear hh hM hBM ho3 HR
      go_wp2_with fail
      refine HS.out.mono ?_
      rintro e w4 ⟨⟨aS, cS, S, rfl, hS, hSn, hSl, hSN⟩, ho4⟩
      have hh := HT2.out.more (o2 HO3.out ho4)
      have HD := hide (lw_old w w4 (fun _ => False) t (i + 1) _ hh)
      have HM4 := hide (GRow.more HM.out ho4)
      have HSS := hide hS
      have HSI := hide hSn
      have HSN := hide hSN
      have HO4 := hide (o2 HO3.out ho4)
      have HG3 := hide ho4.size
      clear hh hS hSn hSN ho4 HS HM
      go_wp2_with fail
      refine HD.out.mono ?_
      rintro e w5 ⟨⟨n0, rfl, hn0⟩, ho5⟩
      have hh := HT2.out.more (o2 HO4.out ho5)
      have HB := hide (lw_bgn w w5 (fun _ => False) t (i + 1) _ hh (by omega))
      have HN0 := hide hn0
      have HO5 := hide (o2 HO4.out ho5)
      have HM5 := hide (GRow.more HM4.out ho5)
      have HS5 := hide (GRow.more HSS.out ho5)
      have HSN5 : Hid (∀ s ∈ S, Nm w5 (fun k => w3.heap.size ≤ k) s.ao s.act) := fun s hs => (HSN.out s hs).more ho5
      clear hh hn0 ho5 HD HM4 HSS HSN
      go_wp2_with fail
      refine HB.out.mono ?_
      rintro e w6 ⟨⟨aB, cB, BB, rfl, hBB, hBI, hBl⟩, ho6⟩
      have HT6 := hide (HT2.out.fence (o2 HO5.out ho6))
      have HBI := hide hBI
      have HM6 := hide (GRow.more HM5.out ho6)
      have HS6 := hide (GRow.more HS5.out ho6)
      have HB6 := hide hBB
      have HSN6 : Hid (∀ s ∈ S, Nm w6 (fun k => w3.heap.size ≤ k) s.ao s.act) := fun s hs => (HSN5.out s hs).more ho6
      have HO26 : Hid (Only (fun _ => False) w2 w6) := o2 HO5.out ho6
      have HO6 : Hid (Only (fun _ => False) w w6) := o2 HO2.out HO26.out
      have HZZ : Hid (w2.heap.size ≤ w3.heap.size ∧ w2.heap.size ≤ w5.heap.size) := ⟨HO3.out.size, HO5.out.size⟩
      obtain ⟨K, hKe⟩ : ∃ K : Nat → Prop, (fun k => False ∨ (w2.heap.size ≤ k ∧ k < w6.heap.size)) = K := ⟨_, rfl⟩
      have HKK : Hid (∀ k, K k ↔ (w2.heap.size ≤ k ∧ k < w6.heap.size)) := fun k => by rw [← hKe]; simp
      rw [hKe] at HT6
      obtain ⟨f0, hf0⟩ : ∃ g, f.drop who = g := ⟨_, rfl⟩
      have HF0 := hide hf0
      rw [hf0] at HT6 HBM HSI HN0 HBI
      clear hKe hf0 hBB hBI ho6 HB HM5 HS5 HSN5 HT2 HO2 HO3 HO4 HO5 HG3
      go_wp2_with fail
      go_loopw [13] (fun y wr => ∃ (j : Nat) (g : Tt), j ≤ L1.length ∧ y = .int .i64 (j : Int) ∧ Hid (Lw w K wr t g (i + 1 + j)) ∧ Hid (Tt.But who f0 g) ∧ Hid (Eff w K w6 wr)) (fun y _ => L1.length - (intOf y).toNat)
      case atStart => exact ⟨0, f0, by omega, rfl, HT6, fun _ _ => rfl, Eff.refl _ _ _⟩
      case round =>
        obtain ⟨j, g, hj, rfl, HT, HBU, HO⟩ := hrel
        have HOW : Hid (Only (fun _ => False) w wr) := HO6.out.trans HO.out (fun k hk h => by have := h.1; omega)
        have HSZ := hide HO.out.size
        by_cases hlt : j < L1.length
        · have hIr := HI1.out.more HOW.out
          obtain ⟨o, rfl, hcell⟩ := hIr.at_ (by omega)
          have hok := hIr.ok L1[j] (List.getElem_mem hlt)
          replace hcell := hcell j hlt
          obtain ⟨q, hq⟩ : ∃ q, L1[j] = q := ⟨_, rfl⟩
          rw [hq] at hcell hok
          clear hq
          obtain ⟨⟨ask, cw, cn, fl, nx, act⟩, ao, cq⟩ := q
          have k0 := hcell 0 _ rfl
          have k1 := hcell 1 _ rfl
          have k2 := hcell 2 _ rfl
          have k3 := hcell 3 _ rfl
          have k4 := hcell 4 _ rfl
          have k5 := hcell 5 _ rfl
          simp only [Nat.add_zero] at k0 k1 k2 k3 k4 k5
          have HNM := hide hok.nm
          have HD : Hid (∀ W, Only (fun _ => False) wr W → Calls Try.prog 24 #[.pointer (some ⟨t, 0, none⟩), .agg #[.int .i64 ask, .int .i64 who, .int .i64 cn, .bool fl, .int .i64 nx, .slice ao act.length cq]] W fun e w' => e = .returned (.tuple #[]) ∧ Lw w K w' t (doF g ⟨ask, who, cn, fl, nx, act⟩) (i + 1 + j + 1) ∧ Eff w K W w') := fun W ho => by
            have hKs : ∀ k, K k → k < W.heap.size := fun k hk => by
              have h1 := ((HKK.out k).1 hk).2
              have h2 := HSZ.out
              have h3 := ho.size
              omega
            exact does_any w W K t (i + 1 + j) g (HT.out.more ho) hKs (by unfold maxLen; omega) ⟨ask, who, cn, fl, nx, act⟩ HWH.out (fun k => k < w.heap.size) ao cq (HNM.out.more ho)
          clear hcell hok hIr
          go_upto_region 18 with fail
          go_wp2_with fail
          refine (HD.out _ (onlyA _ _ _)).mono ?_
          rintro e w7 ⟨rfl, h7, ho7⟩
          have HT7 := hide h7
          have HB7 : Hid (Tt.But who f0 (doF g ⟨ask, who, cn, fl, nx, act⟩)) := HBU.out.trans (doF_but g ⟨ask, who, cn, fl, nx, act⟩)
          have HO7 : Hid (Eff w K w6 w7) := HO.out.trans ((Eff.of (onlyA _ _ _)).trans ho7)
          obtain ⟨g2, hg2⟩ : ∃ x, doF g ⟨ask, who, cn, fl, nx, act⟩ = x := ⟨_, rfl⟩
          rw [hg2] at HT7 HB7
          clear h7 ho7 HD hg2 k0 k1 k2 k3 k4 k5 HT HBU HO
          go_wp2_with fail
          exact ⟨⟨j + 1, g2, by omega, by go_num, HT7, HB7, HO7⟩, by simp [intOf]; omega⟩
        · have HE := hide (lw_end w wr K t (i + 1 + j) g HT.out who HWH.out)
          have hgd : g.drop who = f0 := by
            have h1 := HBU.out
            rw [← HF0.out] at h1 ⊢
            exact h1.drop
          rw [hgd] at HE
          clear hgd HT6
          go_wp2_with fail
          refine HE.out.mono ?_
          rintro e w8 ⟨⟨a8, c8, rfl, _, _⟩, h8, ho8⟩
          have HT8 := hide h8
          have HR := hide (lw_run w w8 K t (i + 1 + j + 1) f0 h8 (by omega))
          have hEff : Only (fun k => w.heap.size ≤ k ∧ ¬ K k) w6 w8 := HO.out.trans ho8
          have HM8 : Hid (IRow w8 w2.heap.size (.slice aM M.length cM) (M.map (·.1))) := GRow.kept HM6.out hEff (fun k hk h => h.2 ((HKK.out k).2 (GRow.low HM6.out k hk)))
          have HS8 : Hid (SRow w8 w3.heap.size (.slice aS S.length cS) S) := GRow.kept HS6.out hEff (fun k hk h => h.2 ((HKK.out k).2 ⟨by have := (GRow.low HS6.out k hk).1; have := HZZ.out.1; omega, (GRow.low HS6.out k hk).2⟩))
          have HB8 : Hid (BRow w8 w5.heap.size (.slice aB BB.length cB) BB) := GRow.kept HB6.out hEff (fun k hk h => h.2 ((HKK.out k).2 ⟨by have := (GRow.low HB6.out k hk).1; have := HZZ.out.2; omega, (GRow.low HB6.out k hk).2⟩))
          have HN8 : Hid (∀ s ∈ S, Nm w8 (fun k => w3.heap.size ≤ k) s.ao s.act) := fun s hs => (HSN6.out s hs).kept hEff (fun k hk1 hk2 h => h.2 ((HKK.out k).2 ⟨by have := HZZ.out.1; omega, hk1⟩))
          have HO8 : Hid (Only (fun _ => False) w w8) := HO6.out.trans hEff (fun k hk h => by have := h.1; omega)
          clear h8 ho8 HE HT HO HBU hEff HM6 HS6 HB6 HSN6 HOW HO26 HO6
          go_wp2_with fail
          refine HR.out.mono ?_
          rintro e w9 ⟨⟨a9, c9, M9, rfl, hM9, hB9, hl9⟩, ho9⟩
          obtain rfl : M9 = M := HBM.out.one hB9
          have HO9 := hide (o2 HO8.out ho9)
          have HX := hide (sameInts_eq w9 _ _ a9 aM c9 cM M9.length (M9.map (·.1)) (List.length_map _) (GRow.nm (cp := c9) (by rw [List.length_map]; exact hM9) (by rw [List.length_map]; omega)) (GRow.nm (cp := cM) (by rw [List.length_map]; exact GRow.more HM8.out ho9) (by rw [List.length_map]; omega)))
          have HT9 := hide (HT8.out.more ho9)
          have HS9 := hide (GRow.more HS8.out ho9)
          have HB9 := hide (GRow.more HB8.out ho9)
          have HN9 : Hid (∀ s ∈ S, Nm w9 (fun k => w3.heap.size ≤ k) s.ao s.act) := fun s hs => (HN8.out s hs).more ho9
          clear hM9 hB9 hl9 ho9 HR HM8 HS8 HB8 HN8 HT8 HO8
          go_wp2_with fail
          refine HX.out.mono ?_
          rintro e w10 ⟨rfl, ho10⟩
          have HO10 := hide (o2 HO9.out ho10)
          have HT10 := hide (HT9.out.more ho10)
          have HS10 := hide (GRow.more HS9.out ho10)
          have HB10 := hide (GRow.more HB9.out ho10)
          have HN10 : Hid (∀ s ∈ S, Nm w10 (fun k => w3.heap.size ≤ k) s.ao s.act) := fun s hs => (HN9.out s hs).more ho10
          have HR := hide (lw_snaps w w10 K t (i + 1 + j + 1) f0 HT10.out (by omega))
          clear ho10 HX HT9 HS9 HB9 HN9 HO9
          go_wp2_with fail
          refine HR.out.mono ?_
          rintro e w11 ⟨⟨a11, c11, S11, rfl, hS11, hI11, hl11, hN11⟩, ho11⟩
          have hpe : S11.map Sp.p = S.map Sp.p := HSI.out.one hI11
          have hle : S.length = S11.length := by
            have := congrArg List.length hpe
            simpa using this.symm
          have HO11 := hide (o2 HO10.out ho11)
          have HT11 := hide (HT10.out.more ho11)
          have HB11 := hide (GRow.more HB10.out ho11)
          have HX := hide (lsnaps_eq w11 _ _ _ _ a11 aS c11 cS S11.length S11 S hpe rfl hle hS11 (GRow.more HS10.out ho11) hN11 (fun s hs => (HN10.out s hs).more ho11) (by omega))
          have HLE := hide hle
          clear hS11 hI11 hl11 hN11 ho11 hpe hle HR HT10 HS10 HB10 HN10 HO10
          go_wp2_with fail
          rw [HLE.out]
          refine HX.out.mono ?_
          rintro e w12 ⟨rfl, ho12⟩
          have HO12 := hide (o2 HO11.out ho12)
          have HT12 := hide (HT11.out.more ho12)
          have HB12 := hide (GRow.more HB11.out ho12)
          have HR := hide (lw_old w w12 K t (i + 1 + j + 1) f0 HT12.out)
          clear ho12 HX HT11 HB11 HO11
          go_wp2_with fail
          refine HR.out.mono ?_
          rintro e w13 ⟨⟨n9, rfl, hn9⟩, ho13⟩
          obtain rfl : n9 = n0 := HN0.out.one hn9
          have HO13 := hide (o2 HO12.out ho13)
          have HT13 := hide (HT12.out.more ho13)
          have HB13 := hide (GRow.more HB12.out ho13)
          have HR := hide (lw_bgn w w13 K t (i + 1 + j + 1) f0 HT13.out (by omega))
          clear hn9 ho13 HT12 HB12 HO12
          go_wp2_with fail
          refine HR.out.mono ?_
          rintro e w14 ⟨⟨a14, c14, B14, rfl, hB14, hI14, hl14⟩, ho14⟩
          obtain rfl : B14 = BB := HBI.out.one hI14
          have HO14 := hide (o2 HO13.out ho14)
          have HX := hide (lbegun_eq w14 _ _ a14 aB c14 cB B14 hB14 (GRow.more HB13.out ho14) (by omega))
          clear hB14 hI14 hl14 ho14 HR HT13 HB13 HO13
          go_wp2_with fail
          refine HX.out.mono ?_
          rintro e w15 ⟨rfl, ho15⟩
          have HO15 := hide (o2 HO14.out ho15)
          clear ho15 HX HO14
          go_wp2_with fail
          refine (HAW.out _).mono ?_
          rintro e w16 ⟨rfl, ho16⟩
          have HO16 := hide (o2 HO15.out ho16)
          clear ho16
          go_wp2_with fail
          go_ret
          exact ⟨rfl, HO16.out⟩
end Go.Proofs.Ytmcghpeamnmbpaa
