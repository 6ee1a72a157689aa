/- The walk of PoolPlays. -/
import Derived.Test.YtebijheonkagfaaGreatDoorKVu
namespace Go.Proofs.YtebijheonkagfaaGreatDoor
open Go.RowKit
set_option maxRecDepth 100000 in
set_option maxHeartbeats 12800000 in
theorem plays_law (w : World) (pages frames : Int) (B cp : Nat) (ao : Option Addr) (L : List Qo) (hQ : Qjs w B ao L) :
    Calls Tryz.prog 3 #[.int .i64 pages, .int .i64 frames, .slice ao L.length cp] w fun e w' => e = .returned (.bool true) ∧ Only (fun _ => False) w w' := by
  have hlen := hQ.len; have HQ := hide hQ; clear hQ; obtain ⟨V, hV⟩ : ∃ V, Value.agg (nt.cells Loc.none) = V := ⟨_, rfl⟩; have HN := hide (fun W => note_any W); have HAO := hide (fun (W : World) p d l q xd x P D G P2 D2 G2 K (h : Uq w W p d l q xd x P D G P2 D2 G2 K) hg => uq_oappend h hg); have HAG := hide (fun (W : World) p d l q xd x P D G P2 D2 G2 K (h : Uq w W p d l q xd x P D G P2 D2 G2 K) hg => uq_gappend h hg); simp only [hV] at HN HAO HAG; clear hV
  go_enter Tryz.func3, Tryz.ntmps3
  go_wp2_with fail
  refine (fr_disk w).mono ?_; rintro e w1 ⟨d, g, m, rfl, hD, ho, hk⟩; have H2 := hide (st2 hD ho hk); clear hD ho hk
  go_wp2_with fail
  refine H2.out.mono ?_; rintro e w2 ⟨xd, a, b, c, ka, kb, kc, rfl, hS2⟩; have H3 := hide (st3 hS2); clear hS2 H2
  go_wp2_with fail
  refine H3.out.mono ?_; rintro e w3 ⟨l, rfl, hS3⟩; have H4 := hide (st4 hS3); clear hS3 H3
  go_wp2_with fail
  refine H4.out.mono ?_; rintro e w4 ⟨x, rfl, hS4⟩; have HS4 := hide hS4; clear hS4 H4
  by_cases hb : (1 ≤ frames ∧ frames ≤ 1024) ∧ (1 ≤ pages ∧ pages ≤ 8192) ∧ 30 + 8 * pages ≤ 2000
  · obtain ⟨n, rfl⟩ : ∃ n : Nat, frames = (n : Int) := ⟨frames.toNat, by omega⟩
    obtain ⟨N, rfl⟩ : ∃ n : Nat, pages = (n : Int) := ⟨pages.toNat, by omega⟩
    have HB : Hid ((1 ≤ n ∧ n ≤ 1024) ∧ 1 ≤ N ∧ 30 + 8 * N ≤ 2000) := by unfold Hid; omega
    clear hb
    go_wp2_with fail
    refine (st5 HS4.out N n HB.out.1.1 HB.out.1.2 HB.out.2.1 HB.out.2.2).mono ?_; rintro e w5 ⟨p, fb, mb, T, rfl, h5, hT, ho5, p1, p2, p3⟩; have H6 := hide (st6 HS4.out h5 hT ho5 p1 p2 p3 HB.out.1.1 HB.out.1.2 HB.out.2.1 HB.out.2.2); clear h5 hT ho5 p1 p2 p3
    go_wp2_with fail
    refine H6.out.mono ?_; rintro e w6 ⟨q, A, X, rfl, hT6⟩; have HU0 : Hid (Uq w w6 p d l q xd x (Pl.new 30 N n) Dz (Lg.new 0 30) (Pl.new 30 N n) Dz (Lg.new 0 30) (fun _ => False)) := ⟨A, X, hT6, fun k hk => hk.elim⟩; clear hT6 H6 HS4 HB
    go_wp2_with fail
    go_loopw [19] (fun y wr => ∃ (j : Nat) (P : Pl) (D : Dk) (G : Lg), j ≤ L.length ∧ y = .int .i64 (j : Int) ∧ Hid (Uq w wr p d l q xd x P D G P D G (fun _ => False)) ∧ Hid (P.Ux ∧ Gq G)) (fun y _ => L.length - (intOf y).toNat)
    case atStart => exact ⟨0, _, _, _, Nat.zero_le _, rfl, HU0, ⟨ux_new _ _ _, Gq.new⟩⟩
    case round =>
      clear HU0; obtain ⟨j, P, D, G, hj, rfl, HU, HUX⟩ := hrel
      by_cases hlt : j < L.length
      · have hjl : (j : Int) < (L.length : Int) := by omega
        obtain ⟨o, e1, hc⟩ := (HQ.out.more HU.out.only).at_ (by omega); have hrn := hc j hlt; have HIN := hide (HQ.out.each L[j] (List.getElem_mem hlt)); obtain ⟨z, hz⟩ : ∃ z, L[j] = z := ⟨_, rfl⟩; rw [hz] at HIN hrn; subst e1; have k0 : wr.cell? ⟨B, o + j * 9, none⟩ = some (.int .i64 z.ask) := hrn 0 _ rfl; have k1 : wr.cell? ⟨B, o + j * 9 + 1, none⟩ = some (.int .i64 z.page) := hrn 1 _ rfl; have k2 : wr.cell? ⟨B, o + j * 9 + 2, none⟩ = some (.int .i64 z.pick) := hrn 2 _ rfl; have k3 : wr.cell? ⟨B, o + j * 9 + 3, none⟩ = some (.int .i64 z.body.lsn) := hrn 3 _ rfl; have k4 : wr.cell? ⟨B, o + j * 9 + 4, none⟩ = some (.int .i64 z.body.kind) := hrn 4 _ rfl; have k5 : wr.cell? ⟨B, o + j * 9 + 5, none⟩ = some (.int .i64 z.body.level) := hrn 5 _ rfl; have k6 : wr.cell? ⟨B, o + j * 9 + 6, none⟩ = some (.int .i64 z.body.right) := hrn 6 _ rfl; have k7 : wr.cell? ⟨B, o + j * 9 + 7, none⟩ = some (.string z.body.high) := hrn 7 _ rfl; have k8 : wr.cell? ⟨B, o + j * 9 + 8, none⟩ = some (.slice z.ab z.body.items.length z.cb) := hrn 8 _ rfl; clear hc hz hrn; have HOB0 := hide (Ob.new wr z); have HOA := hide (onlyA wr (.cells #[.int .i64 z.ask, .int .i64 z.page, .int .i64 z.pick, .int .i64 z.body.lsn, .int .i64 z.body.kind, .int .i64 z.body.level, .int .i64 z.body.right, .string z.body.high, .slice z.ab z.body.items.length z.cb] 47))
        have hsz9 : (wr.alloc (.cells #[.int .i64 z.ask, .int .i64 z.page, .int .i64 z.pick, .int .i64 z.body.lsn, .int .i64 z.body.kind, .int .i64 z.body.level, .int .i64 z.body.right, .string z.body.high, .slice z.ab z.body.items.length z.cb] 47)).heap.size = wr.heap.size + 1 := by simp
        have HU1 : Hid (Uq w (wr.alloc (.cells #[.int .i64 z.ask, .int .i64 z.page, .int .i64 z.pick, .int .i64 z.body.lsn, .int .i64 z.body.kind, .int .i64 z.body.level, .int .i64 z.body.right, .string z.body.high, .slice z.ab z.body.items.length z.cb] 47)) p d l q xd x P D G P D G (fun k => k = wr.heap.size)) := HU.out.fresh HOA.out (fun k hk => .inr ⟨by omega, by omega⟩); clear hsz9
        go_upto_region 17 with fail
        obtain ⟨xb, hxb⟩ : ∃ b, wr.heap.size = b := ⟨_, rfl⟩; obtain ⟨W, hW⟩ : ∃ W, W = wr.alloc (.cells #[.int .i64 z.ask, .int .i64 z.page, .int .i64 z.pick, .int .i64 z.body.lsn, .int .i64 z.body.kind, .int .i64 z.body.level, .int .i64 z.body.right, .string z.body.high, .slice z.ab z.body.items.length z.cb] 47) := ⟨_, rfl⟩; rw [hxb] at HOB0 HU1 ⊢; rw [← hW] at HOB0 HU1 ⊢; clear hW hxb k0 k1 k2 k3 k4 k5 k6 k7 k8 HU HOA; have b0 := HOB0.out.c0
        go_upto_block 2 with fail
        clear b0
        go_cut [21, 22] (fun u v wc => ∃ (c : Int) (P' : Pl) (D' : Dk) (G' : Lg), u = .int .i64 c ∧ v = .int .i64 c ∧ Hid (Uq w wc p d l q xd x P' D' G' P' D' G' (fun k => k = xb)) ∧ Hid (Ob wc xb z) ∧ Hid (P'.Ux ∧ Gq G'))
        case first =>
          by_cases h0 : z.ask = 0
          · have a0 : (z.ask == 0) = true := by simp [h0]
            have n1 : (z.ask == 1) = false := by simp [h0]
            have n5 : (z.ask == 5) = false := by simp [h0]
            have n2 : (z.ask == 2) = false := by simp [h0]
            have n3 : (z.ask == 3) = false := by simp [h0]
            have n4 : (z.ask == 4) = false := by simp [h0]
            clear h0
            as_aux_lemma =>
              have b1 := HOB0.out.c1; have b2 := HOB0.out.c2; have HXW : Hid (xb < W.heap.size) := HOB0.out.lt; obtain ⟨F, hF⟩ : ∃ F, P.fetch D G z.page z.pick = F := ⟨_, rfl⟩; obtain ⟨pg, hpg⟩ : ∃ pg, F.2 = pg := ⟨_, rfl⟩; obtain ⟨O, hO⟩ : ∃ O, F.1 = O := ⟨_, rfl⟩; have HA := hide (uq_ofetch HU1.out z.page z.pick pg (by rw [hF]; exact hpg)); rw [hF, hO] at HA
              go_wp2_with fail
              refine HA.out.mono ?_; rintro e w3 ⟨Bq, aq, cq, rfl, hS3, hB3, hu3, ho3⟩; have HOB3 := hide (HOB0.out.kept ho3 (fun e => e.1 rfl)); have HOA := hide (onlyA w3 (.cells #[.int .i64 pg.lsn, .int .i64 pg.kind, .int .i64 pg.level, .int .i64 pg.right, .string pg.high, .slice aq pg.items.length cq] 45))
              have hsz9 : (w3.alloc (.cells #[.int .i64 pg.lsn, .int .i64 pg.kind, .int .i64 pg.level, .int .i64 pg.right, .string pg.high, .slice aq pg.items.length cq] 45)).heap.size = w3.heap.size + 1 := by simp
              have HU4 : Hid (Uq w (w3.alloc (.cells #[.int .i64 pg.lsn, .int .i64 pg.kind, .int .i64 pg.level, .int .i64 pg.right, .string pg.high, .slice aq pg.items.length cq] 45)) p d l q xd x O.P O.D O.G P D G (fun k => (k = xb ∨ k = Bq ∧ 0 < pg.items.length) ∨ k = w3.heap.size)) := Uq.fresh hu3 HOA.out (fun k hk => hk.elim (fun e => .inl e) (fun e => .inr ⟨by omega, by omega⟩)); have HPS := hide (Pag.new w3 (.int .i64 pg.lsn) (.int .i64 pg.kind) (.int .i64 pg.level) (.int .i64 pg.right) (.string pg.high) (.slice aq pg.items.length cq)); have HNS : Hid (Nos (w3.alloc (.cells #[.int .i64 pg.lsn, .int .i64 pg.kind, .int .i64 pg.level, .int .i64 pg.right, .string pg.high, .slice aq pg.items.length cq] 45)) Bq aq pg.items.length) := (Nos.of hS3 (fun h0 => (hB3 h0).2)).kept HOA.out (fun _ h => h); have HST := hide (hS3.more HOA.out)
              have HNE : Hid (0 < pg.items.length → Bq ≠ xb ∧ Bq ≠ w3.heap.size) := fun h0 => by
                have h1 := (hB3 h0).1; have h2 := hS3.lt h0; have h3 := HXW.out
                exact ⟨by omega, by omega⟩
              have HOB4 := hide (HOB3.out.kept HOA.out (fun e => e)); clear hS3 hB3 hu3 ho3 b1 b2 HA hsz9 HOA HOB3
              go_upto_region 21 with fail
              obtain ⟨sb, hsb⟩ : ∃ b, w3.heap.size = b := ⟨_, rfl⟩; obtain ⟨w4, hw4⟩ : ∃ y, w3.alloc (.cells #[.int .i64 pg.lsn, .int .i64 pg.kind, .int .i64 pg.level, .int .i64 pg.right, .string pg.high, .slice aq pg.items.length cq] 45) = y := ⟨_, rfl⟩; rw [hw4] at HU4 HPS HNS HST HOB4 ⊢; rw [hsb] at HU4 HPS HNE ⊢; clear hw4 hsb; have HFG := hide (uq_gfetch HU4.out HUX.out.1 HU1.out.ok.1 z.page z.pick pg (by rw [hF]; exact hpg)); rw [hF, hO] at HFG; have b1 := HOB4.out.c1; have b2 := HOB4.out.c2
              go_wp2_with fail
              refine HFG.out.mono ?_; rintro e w5 ⟨Bt, at_, ct, rfl, hS5, hB5, hu5, ho5⟩; have HOA := hide (onlyA w5 (.cells #[.int .i64 pg.lsn, .int .i64 pg.kind, .int .i64 pg.level, .int .i64 pg.right, .string pg.high, .slice at_ pg.items.length ct] 45)); have HU6 := hide (Uq.more hu5 HOA.out); have HOB6 := hide ((HOB4.out.kept ho5 (fun e => e.1 (.inl (.inl rfl)))).kept HOA.out (fun e => e)); have HPS6 := hide ((HPS.out.kept ho5 (fun e => e.1 (.inr rfl))).more HOA.out); have HNS6 := hide ((HNS.out.kept ho5 (fun h0 e => e.1 (.inl (.inr ⟨rfl, h0⟩)))).kept HOA.out (fun _ h => h)); have HST6 := hide ((HST.out.kept ho5 (fun h0 e => e.1 (.inl (.inr ⟨rfl, h0⟩)))).more HOA.out); have HSU6 := hide (hS5.more HOA.out); have HPT := hide (Pag.new w5 (.int .i64 pg.lsn) (.int .i64 pg.kind) (.int .i64 pg.level) (.int .i64 pg.right) (.string pg.high) (.slice at_ pg.items.length ct)); clear hS5 hB5 hu5 ho5 b1 b2 HFG HOA HU4 HPS HNS HST HOB4
              go_upto_region 22 with fail
              obtain ⟨tb, htb⟩ : ∃ b, w5.heap.size = b := ⟨_, rfl⟩; obtain ⟨w6, hw6⟩ : ∃ y, w5.alloc (.cells #[.int .i64 pg.lsn, .int .i64 pg.kind, .int .i64 pg.level, .int .i64 pg.right, .string pg.high, .slice at_ pg.items.length ct] 45) = y := ⟨_, rfl⟩; rw [hw6] at HU6 HOB6 HPS6 HNS6 HST6 HSU6 HPT ⊢; rw [htb] at HPT ⊢; clear hw6 htb; have HSM := hide (ysame_any w6 pg.lsn pg.kind pg.level pg.right pg.lsn pg.kind pg.level pg.right pg.high pg.high Bq Bt cq ct aq at_ pg.items pg.items HST6.out HSU6.out); rw [show decide (pg.lsn = pg.lsn ∧ pg.kind = pg.kind ∧ pg.level = pg.level ∧ pg.right = pg.right ∧ pg.high = pg.high ∧ pg.items = pg.items) = true by simp] at HSM
              have HXF : Hid (O.P.Ux ∧ Gq O.G) := by rw [← hO, ← hF]; exact ⟨ux_fetch HUX.out.1 _ _ _ _, HUX.out.2.alike (alike_fetch _ _ _ _ _)⟩
              obtain ⟨c0, c1, c2, c3, c4, c5, _⟩ := HPS6.out; obtain ⟨e0, e1, e2, e3, e4, e5, _⟩ := HPT.out; clear hF hpg hO
              go_wp2_with fail
              refine HSM.out.mono ?_; rintro e w7 ⟨rfl, ho7⟩; have HU7 := hide (HU6.out.more ho7); have HOB7 := hide (HOB6.out.kept ho7 (fun e => e)); have HPS7 := hide (HPS6.out.more ho7); have HNS7 := hide (HNS6.out.kept ho7 (fun _ h => h)); have hnl := HST6.out.len; clear ho7 c0 c1 c2 c3 c4 c5 e0 e1 e2 e3 e4 e5 HU6 HOB6 HPS6 HNS6 HST6 HSU6 HPT HSM; obtain ⟨nI, hnI⟩ : ∃ n, pg.items.length = n := ⟨_, rfl⟩; rw [hnI] at HPS7 HNS7 HNE hnl; simp only [hnI] at HU7; clear hnI
              go_wp2_with fail
              go_loopw [27] (fun y wr => ∃ (n : Nat), n ≤ nI ∧ y = .int .i64 (n : Int) ∧ Hid (Uq w wr p d l q xd x O.P O.D O.G O.P O.D O.G (fun k => (k = xb ∨ k = Bq ∧ 0 < nI) ∨ k = sb)) ∧ Hid (Ob wr xb z) ∧ Hid (Pag wr sb (.int .i64 pg.lsn) (.int .i64 pg.kind) (.int .i64 pg.level) (.int .i64 pg.right) (.string pg.high) (.slice aq nI cq)) ∧ Hid (Nos wr Bq aq nI)) (fun y _ => nI - (intOf y).toNat)
              case atStart => exact ⟨0, Nat.zero_le _, rfl, HU7, HOB7, HPS7, HNS7⟩
              case round =>
                obtain ⟨n, hn, rfl, HUn, HOBn, HPSn, HNSn⟩ := hrel; have c5 := HPSn.out.c5
                by_cases hlt2 : n < nI
                · have hl2 : (n : Int) < (nI : Int) := by omega
                  obtain ⟨oq, haq, hcq⟩ := HNSn.out.at_ (by omega); subst haq; obtain ⟨u, hu⟩ := hcq n hlt2; have fu := HNSn.out.fz (by omega) (oq + n); have hne := HNE.out (by omega); have hne1 := hne.1; have hne2 := hne.2; have HOS : Hid (Only (fun k => k = Bq) wr (wr.setCell ⟨Bq, oq + n, none⟩ (.string ⟨#[110, 111]⟩))) := Only.setCell wr ⟨Bq, oq + n, none⟩ _ rfl; have HU9 := hide (HUn.out.side HOS.out (fun k hk => .inl (.inr ⟨hk, by omega⟩))); have HOB9 := hide (HOBn.out.kept HOS.out (fun e => hne1 e.symm)); have HPS9 := hide (HPSn.out.kept HOS.out (fun e => hne2 e.symm)); have HNS9 := hide (HNSn.out.put n hlt2 ⟨#[110, 111]⟩); clear hcq hne
                  go_wp2_with fail
                  go_roundw
                  case rel => exact ⟨n + 1, by omega, by go_num, HU9, HOB9, HPS9, HNS9⟩
                  case measure => simp [intOf]; omega
                · have hl2 : ¬ (n : Int) < (nI : Int) := by omega
                  have HU9 := hide (HUn.out.weak (K' := fun k => k = xb) (fun k hk => .inl (.inl hk)))
                  go_wp2_with fail
                  go_meet
                  exact ⟨O.c, O.P, O.D, O.G, rfl, rfl, HU9, HOBn, HXF⟩
          · have a0 : (z.ask == 0) = false := by simp [h0]
            by_cases h1 : z.ask = 1
            · have a1 : (z.ask == 1) = true := by simp [h1]
              have n0 : (z.ask == 0) = false := by simp [h1]
              have n5 : (z.ask == 5) = false := by simp [h1]
              have n2 : (z.ask == 2) = false := by simp [h1]
              have n3 : (z.ask == 3) = false := by simp [h1]
              have n4 : (z.ask == 4) = false := by simp [h1]
              clear h1
              as_aux_lemma =>
                have HXW : Hid (xb < W.heap.size) := HOB0.out.lt; have b3 := HOB0.out.c3; have b4 := HOB0.out.c4; have b5 := HOB0.out.c5; have b6 := HOB0.out.c6; have b7 := HOB0.out.c7; have b8 := HOB0.out.c8; have HOA := hide (onlyA W (.cells #[.int .i64 z.body.lsn, .int .i64 z.body.kind, .int .i64 z.body.level, .int .i64 z.body.right, .string z.body.high, .slice z.ab z.body.items.length z.cb] 45))
                have hsz9 : (W.alloc (.cells #[.int .i64 z.body.lsn, .int .i64 z.body.kind, .int .i64 z.body.level, .int .i64 z.body.right, .string z.body.high, .slice z.ab z.body.items.length z.cb] 45)).heap.size = W.heap.size + 1 := by simp
                have HU2 : Hid (Uq w (W.alloc (.cells #[.int .i64 z.body.lsn, .int .i64 z.body.kind, .int .i64 z.body.level, .int .i64 z.body.right, .string z.body.high, .slice z.ab z.body.items.length z.cb] 45)) p d l q xd x P D G P D G (fun k => k = xb ∨ k = W.heap.size)) := HU1.out.fresh HOA.out (fun k hk => hk.elim (fun e => .inl e) (fun e => .inr ⟨by omega, by omega⟩)); have HPB := hide (Pag.new W (.int .i64 z.body.lsn) (.int .i64 z.body.kind) (.int .i64 z.body.level) (.int .i64 z.body.right) (.string z.body.high) (.slice z.ab z.body.items.length z.cb)); have HOB2 := hide (HOB0.out.kept HOA.out (fun e => e))
                go_upto_region 33 with fail
                obtain ⟨bb, hbb⟩ : ∃ b, W.heap.size = b := ⟨_, rfl⟩; obtain ⟨W2, hW2⟩ : ∃ y, W.alloc (.cells #[.int .i64 z.body.lsn, .int .i64 z.body.kind, .int .i64 z.body.level, .int .i64 z.body.right, .string z.body.high, .slice z.ab z.body.items.length z.cb] 45) = y := ⟨_, rfl⟩; rw [hW2] at HU2 HPB HOB2 ⊢; rw [hbb] at HU2 HPB HXW ⊢; clear hW2 hbb b3 b4 b5 b6 b7 b8 hsz9 HOA; have b0 := HOB2.out.c0
                obtain ⟨AT, hAT⟩ : ∃ t, noteA G = t := ⟨_, rfl⟩; obtain ⟨NC, hNC⟩ : ∃ t, noteC G = t := ⟨_, rfl⟩; obtain ⟨G3, hG3⟩ : ∃ t, noteG G = t := ⟨_, rfl⟩; have hatb := noteA_bd HUX.out.2; rw [hAT] at hatb
                have HG3 : Hid (Gq G3) := by rw [← hG3]; exact HUX.out.2.note HU1.out.ok.2
                go_wp2_with fail
                refine (HN.out _).mono ?_; rintro e w3 ⟨rfl, ho3⟩; have HU3 := hide (HU2.out.more ho3); have HOB3 := hide (HOB2.out.kept ho3 (fun e => e)); have HPB3 := hide (HPB.out.more ho3); clear ho3 b0 HU2 HOB2 HPB; have HA := hide (HAO.out _ _ _ _ _ _ _ _ _ _ _ _ _ _ HU3.out HUX.out.2); rw [hAT, hNC, hG3] at HA
                go_wp2_with fail
                refine HA.out.mono ?_; rintro e w4 ⟨rfl, hu4, ho4⟩; have HU4 := hide hu4; have HOB4 := hide (HOB3.out.kept ho4 (fun e => e.1 (.inl rfl))); have HPB4 := hide (HPB3.out.kept ho4 (fun e => e.1 (.inr rfl))); clear hu4 ho4 HU3 HOB3 HPB3 HA
                go_wp2_with fail
                refine (HN.out _).mono ?_; rintro e w5 ⟨rfl, ho5⟩; have HU5 := hide (HU4.out.more ho5); have HOB5 := hide (HOB4.out.kept ho5 (fun e => e)); have HPB5 := hide (HPB4.out.more ho5); clear ho5 HU4 HOB4 HPB4; have HA := hide (HAG.out _ _ _ _ _ _ _ _ _ _ _ _ _ _ HU5.out HUX.out.2); rw [hAT, hNC, hG3] at HA; clear hAT hNC hG3
                go_wp2_with fail
                refine HA.out.mono ?_; rintro e w6 ⟨rfl, hu6, ho6⟩; have HU6 := hide hu6; have HOB6 := hide (HOB5.out.kept ho6 (fun e => e.1 (.inl rfl))); have HPB6 := hide (HPB5.out.kept ho6 (fun e => e.1 (.inr rfl))); clear hu6 ho6 HU5 HOB5 HPB5 HA; obtain ⟨LS, hLS⟩ : ∃ t, max AT 1 = t := ⟨_, rfl⟩
                have HLS : Hid (LS < 9223372036854775808) := by unfold Hid; omega
                obtain ⟨q0, q1, q2, q3, q4, q5, f0, f1, f2, f3, f4, f5, fq⟩ := HPB6.out; have HOS : Hid (Only (fun k => k = bb) w6 (w6.setCell ⟨bb, 0, none⟩ (.int .i64 LS))) := Only.setCell w6 ⟨bb, 0, none⟩ _ rfl; have HU8 := hide (HU6.out.side HOS.out (fun k hk => .inr hk)); have HOB8 := hide (HOB6.out.kept HOS.out (fun e => by have := HXW.out; omega)); have HPB8 := hide (HPB6.out.lsnV (.int .i64 LS))
                go_upto_region 37 with fail
                clear q0 q1 q2 q3 q4 q5 f0 f1 f2 f3 f4 f5 fq hLS hatb; obtain ⟨W8, hW8⟩ : ∃ y, w6.setCell ⟨bb, 0, none⟩ (.int .i64 LS) = y := ⟨_, rfl⟩; rw [hW8] at HU8 HOB8 HPB8 ⊢; clear hW8 HOS HU6 HOB6 HPB6
                obtain ⟨q0, q1, q2, q3, q4, q5, _⟩ := HPB8.out; have HOA := hide (onlyA W8 (.cells #[.int .i64 LS, .int .i64 z.body.kind, .int .i64 z.body.level, .int .i64 z.body.right, .string z.body.high, .slice z.ab z.body.items.length z.cb] 45)); have HPV := hide (Pag.new W8 (.int .i64 LS) (.int .i64 z.body.kind) (.int .i64 z.body.level) (.int .i64 z.body.right) (.string z.body.high) (.slice z.ab z.body.items.length z.cb))
                go_upto_region 38 with fail
                clear q0 q1 q2 q3 q4 q5
                have HVB : Hid (W8.heap.size < (W8.alloc (.cells #[.int .i64 LS, .int .i64 z.body.kind, .int .i64 z.body.level, .int .i64 z.body.right, .string z.body.high, .slice z.ab z.body.items.length z.cb] 45)).heap.size) := by unfold Hid; simp
                obtain ⟨vb, hvb⟩ : ∃ b, W8.heap.size = b := ⟨_, rfl⟩; obtain ⟨W9, hW9⟩ : ∃ y, W8.alloc (.cells #[.int .i64 LS, .int .i64 z.body.kind, .int .i64 z.body.level, .int .i64 z.body.right, .string z.body.high, .slice z.ab z.body.items.length z.cb] 45) = y := ⟨_, rfl⟩; rw [hW9] at HOA HPV HVB ⊢; rw [hvb] at HPV HVB ⊢; have HOW9 := hide (o2 HU8.out.only HOA.out); obtain ⟨aq, cq, Bq, w10, hr10, hs10, hn10, hb10, ho10⟩ := copy_made W9 z.B z.cb z.ab z.body.items (HIN.out.strs.more HOW9.out) HIN.out.fit; have HR10 := hide hr10; have HPB9 := hide (HPB8.out.more HOA.out); have h5 := (HPB9.out.more (onlyA W9 (.cells #[] 9))).c5; have HPV10 := hide (HPV.out.more ho10); have v5 := HPV10.out.c5; have g5 := HPV10.out.f5; have HOV : Hid (Only (fun k => k = vb) w10 (w10.setCell ⟨vb, 5, none⟩ (.slice aq z.body.items.length cq))) := Only.setCell w10 ⟨vb, 5, none⟩ _ rfl; have HO11 : Hid (Only (fun _ => False) W8 (w10.setCell ⟨vb, 5, none⟩ (.slice aq z.body.items.length cq))) := (o2 HOA.out ho10).trans HOV.out (fun i hi e => by omega); have hz8 := HVB.out; have hz10 := ho10.size; have hz11 := HOV.out.size
                have HNE : Hid (0 < z.body.items.length → Bq ≠ xb ∧ Bq ≠ vb) := fun h0 => by
                  have h1 := hb10 h0; have h2 := HOB8.out.lt
                  exact ⟨by omega, by omega⟩
                have HU11 : Hid (Uq w (w10.setCell ⟨vb, 5, none⟩ (.slice aq z.body.items.length cq)) p d l q xd x P D G3 P D G3 (fun k => (k = xb ∨ k = bb) ∨ k = vb ∨ k = Bq ∧ 0 < z.body.items.length)) := HU8.out.fresh HO11.out (fun k hk => by
                  rcases hk with e | e | e
                  · exact .inl e
                  · exact .inr ⟨by omega, by omega⟩
                  · have h1 := hb10 e.2
                    have h2 := hs10.lt e.2
                    exact .inr ⟨by omega, by omega⟩)
                have HOB11 := hide (HOB8.out.kept HO11.out (fun e => e)); have HPB11 := hide (HPB8.out.more HO11.out); have HPV11 := hide (HPV10.out.set5 (.slice aq z.body.items.length cq)); have HS11 := hide (hs10.kept HOV.out (fun h0 => (HNE.out h0).2)); have HN11 := hide (hn10.kept HOV.out (fun h0 => (HNE.out h0).2)); clear hr10 hs10 hn10 hb10 ho10 hz8 hz10 hz11 hW9 hvb
                go_upto_region 39 with (at_builtin; go_must (refine Lib.wpList_append_run _ rfl _ _ _ _ rfl _ _ rfl rfl _ _ HR10.out ?_))
                clear h5 v5 g5 HR10; obtain ⟨W11, hW11⟩ : ∃ y, w10.setCell ⟨vb, 5, none⟩ (.slice aq z.body.items.length cq) = y := ⟨_, rfl⟩; rw [hW11] at HU11 HOB11 HPB11 HPV11 HS11 HN11 ⊢; clear hW11 HO11 HOV HPV10 HPB9 HPV HPB8 HOB8 HOA HOW9 HVB; obtain ⟨bd, hbd⟩ : ∃ b : Pg, (⟨LS, z.body.kind, z.body.level, z.body.right, z.body.high, z.body.items⟩ : Pg) = b := ⟨_, rfl⟩; obtain ⟨O, hO⟩ : ∃ O, P.set D G3 z.page bd z.pick = O := ⟨_, rfl⟩
                have HA : Hid (Calls Tryz.prog 17 #[.pointer (some ⟨p, 0, none⟩), .int .i64 z.page, .agg #[.int .i64 LS, .int .i64 z.body.kind, .int .i64 z.body.level, .int .i64 z.body.right, .string z.body.high, .slice aq z.body.items.length cq], .int .i64 z.pick] W11 fun e w' => e = .returned (.int .i64 O.c) ∧ Uq w w' p d l q xd x O.P O.D O.G P D G3 (fun k => (k = xb ∨ k = bb) ∨ k = vb ∨ k = Bq ∧ 0 < z.body.items.length) ∧ Only (Chg w (fun k => (k = xb ∨ k = bb) ∨ k = vb ∨ k = Bq ∧ 0 < z.body.items.length)) W11 w') := by
                  have := uq_oset HU11.out z.page z.pick ⟨LS, z.body.kind, z.body.level, z.body.right, z.body.high, z.body.items⟩ Bq aq cq HS11.out (fun h0 => .inr (.inr ⟨rfl, h0⟩)) HIN.out.high HLS.out; rw [hbd, hO] at this; rw [← hbd] at this
                  exact this
                have HB : Hid (∀ U, Uq w U p d l q xd x O.P O.D O.G P D G3 (fun k => (k = xb ∨ k = bb) ∨ k = vb ∨ k = Bq ∧ 0 < z.body.items.length) → Calls Tryz.prog 18 #[.pointer (some ⟨q, 0, none⟩), .int .i64 z.page, .agg #[.int .i64 LS, .int .i64 z.body.kind, .int .i64 z.body.level, .int .i64 z.body.right, .string z.body.high, .slice z.ab z.body.items.length z.cb], .int .i64 z.pick] U fun e w' => e = .returned (.int .i64 O.c) ∧ Uq w w' p d l q xd x O.P O.D O.G O.P O.D O.G (fun k => (k = xb ∨ k = bb) ∨ k = vb ∨ k = Bq ∧ 0 < z.body.items.length) ∧ Only (Chg w (fun k => (k = xb ∨ k = bb) ∨ k = vb ∨ k = Bq ∧ 0 < z.body.items.length)) U w') := fun U hU => by
                  have := uq_gset hU HUX.out.1 HU11.out.ok.1 z.page z.pick ⟨LS, z.body.kind, z.body.level, z.body.right, z.body.high, z.body.items⟩ z.B z.cb z.ab HIN.out.strs HIN.out.fit HIN.out.high HLS.out; rw [hbd, hO] at this; rw [← hbd] at this
                  exact this
                have HXF : Hid (O.P.Ux ∧ Gq O.G) := by rw [← hO]; exact ⟨ux_set HUX.out.1 _ _ _ _ _, HG3.out.alike (alike_set _ _ _ _ _ _)⟩
                have hnl := HIN.out.strs.len; clear hbd hO; obtain ⟨nI, hnI⟩ : ∃ n, z.body.items.length = n := ⟨_, rfl⟩; rw [hnI] at HA HB HN11 HPV11 HPB11 HNE hnl ⊢; have HNI := hide hnI; clear hnI; obtain ⟨q0, q1, q2, q3, q4, q5, _⟩ := HPV11.out; have b1 := HOB11.out.c1; have b2 := HOB11.out.c2
                go_wp2_with fail
                refine HA.out.mono ?_; rintro e w12 ⟨rfl, hu12, ho12⟩; have HU12 := hide hu12; have HOB12 := hide (HOB11.out.kept ho12 (fun e => e.1 (.inl (.inl rfl)))); have HPB12 := hide (HPB11.out.kept ho12 (fun e => e.1 (.inl (.inr rfl)))); have HPV12 := hide (HPV11.out.kept ho12 (fun e => e.1 (.inr (.inl rfl)))); have HN12 := hide (HN11.out.kept ho12 (fun h0 e => e.1 (.inr (.inr ⟨rfl, h0⟩)))); clear hu12 ho12 q0 q1 q2 q3 q4 q5 b1 b2 HU11 HOB11 HPB11 HPV11 HN11 HS11 HA; obtain ⟨q0, q1, q2, q3, q4, q5, _⟩ := HPB12.out; have b1 := HOB12.out.c1; have b2 := HOB12.out.c2
                go_wp2_with fail
                refine (HB.out _ HU12.out).mono ?_; rintro e w13 ⟨rfl, hu13, ho13⟩; have HU13 := hide hu13; have HOB13 := hide (HOB12.out.kept ho13 (fun e => e.1 (.inl (.inl rfl)))); have HPV13 := hide (HPV12.out.kept ho13 (fun e => e.1 (.inr (.inl rfl)))); have HN13 := hide (HN12.out.kept ho13 (fun h0 e => e.1 (.inr (.inr ⟨rfl, h0⟩)))); clear hu13 ho13 q0 q1 q2 q3 q4 q5 b1 b2 HU12 HOB12 HPB12 HPV12 HN12 HB
                go_wp2_with fail
                go_loopw [32] (fun y wr => ∃ (n : Nat), n ≤ nI ∧ y = .int .i64 (n : Int) ∧ Hid (Uq w wr p d l q xd x O.P O.D O.G O.P O.D O.G (fun k => (k = xb ∨ k = bb) ∨ k = vb ∨ k = Bq ∧ 0 < nI)) ∧ Hid (Ob wr xb z) ∧ Hid (Pag wr vb (.int .i64 LS) (.int .i64 z.body.kind) (.int .i64 z.body.level) (.int .i64 z.body.right) (.string z.body.high) (.slice aq nI cq)) ∧ Hid (Nos wr Bq aq nI)) (fun y _ => nI - (intOf y).toNat)
                case atStart => exact ⟨0, Nat.zero_le _, rfl, HU13, HOB13, HPV13, HN13⟩
                case round =>
                  obtain ⟨n, hn, rfl, HUn, HOBn, HPSn, HNSn⟩ := hrel; have c5 := HPSn.out.c5
                  by_cases hlt2 : n < nI
                  · have hl2 : (n : Int) < (nI : Int) := by omega
                    obtain ⟨oq, haq, hcq⟩ := HNSn.out.at_ (by omega); subst haq; obtain ⟨u, hu⟩ := hcq n hlt2; have fu := HNSn.out.fz (by omega) (oq + n); have hne := HNE.out (by omega); have hne1 := hne.1; have hne2 := hne.2; have HOS : Hid (Only (fun k => k = Bq) wr (wr.setCell ⟨Bq, oq + n, none⟩ (.string ⟨#[110, 111]⟩))) := Only.setCell wr ⟨Bq, oq + n, none⟩ _ rfl; have HU9 := hide (HUn.out.side HOS.out (fun k hk => .inr (.inr ⟨hk, by omega⟩))); have HOB9 := hide (HOBn.out.kept HOS.out (fun e => hne1 e.symm)); have HPS9 := hide (HPSn.out.kept HOS.out (fun e => hne2 e.symm)); have HNS9 := hide (HNSn.out.put n hlt2 ⟨#[110, 111]⟩); clear hcq hne
                    go_wp2_with fail
                    go_roundw
                    case rel => exact ⟨n + 1, by omega, by go_num, HU9, HOB9, HPS9, HNS9⟩
                    case measure => simp [intOf]; omega
                  · have hl2 : ¬ (n : Int) < (nI : Int) := by omega
                    have HU9 := hide (HUn.out.weak (K' := fun k => k = xb) (fun k hk => .inl (.inl hk)))
                    go_wp2_with fail
                    go_meet
                    exact ⟨O.c, O.P, O.D, O.G, rfl, rfl, HU9, HOBn, HXF⟩
            · have a1 : (z.ask == 1) = false := by simp [h1]
              by_cases h5 : z.ask = 5
              · have a5 : (z.ask == 5) = true := by simp [h5]
                have n0 : (z.ask == 0) = false := by simp [h5]
                have n1 : (z.ask == 1) = false := by simp [h5]
                have n2 : (z.ask == 2) = false := by simp [h5]
                have n3 : (z.ask == 3) = false := by simp [h5]
                have n4 : (z.ask == 4) = false := by simp [h5]
                clear h5
                as_aux_lemma =>
                  have HXW : Hid (xb < W.heap.size) := HOB0.out.lt; have b3 := HOB0.out.c3; have b4 := HOB0.out.c4; have b5 := HOB0.out.c5; have b6 := HOB0.out.c6; have b7 := HOB0.out.c7; have b8 := HOB0.out.c8; have HOA := hide (onlyA W (.cells #[.int .i64 z.body.lsn, .int .i64 z.body.kind, .int .i64 z.body.level, .int .i64 z.body.right, .string z.body.high, .slice z.ab z.body.items.length z.cb] 45))
                  have hsz9 : (W.alloc (.cells #[.int .i64 z.body.lsn, .int .i64 z.body.kind, .int .i64 z.body.level, .int .i64 z.body.right, .string z.body.high, .slice z.ab z.body.items.length z.cb] 45)).heap.size = W.heap.size + 1 := by simp
                  have HU2 : Hid (Uq w (W.alloc (.cells #[.int .i64 z.body.lsn, .int .i64 z.body.kind, .int .i64 z.body.level, .int .i64 z.body.right, .string z.body.high, .slice z.ab z.body.items.length z.cb] 45)) p d l q xd x P D G P D G (fun k => k = xb ∨ k = W.heap.size)) := HU1.out.fresh HOA.out (fun k hk => hk.elim (fun e => .inl e) (fun e => .inr ⟨by omega, by omega⟩)); have HPB := hide (Pag.new W (.int .i64 z.body.lsn) (.int .i64 z.body.kind) (.int .i64 z.body.level) (.int .i64 z.body.right) (.string z.body.high) (.slice z.ab z.body.items.length z.cb)); have HOB2 := hide (HOB0.out.kept HOA.out (fun e => e))
                  go_upto_region 33 with fail
                  obtain ⟨bb, hbb⟩ : ∃ b, W.heap.size = b := ⟨_, rfl⟩; obtain ⟨W2, hW2⟩ : ∃ y, W.alloc (.cells #[.int .i64 z.body.lsn, .int .i64 z.body.kind, .int .i64 z.body.level, .int .i64 z.body.right, .string z.body.high, .slice z.ab z.body.items.length z.cb] 45) = y := ⟨_, rfl⟩; rw [hW2] at HU2 HPB HOB2 ⊢; rw [hbb] at HU2 HPB HXW ⊢; clear hW2 hbb b3 b4 b5 b6 b7 b8 hsz9 HOA; have b0 := HOB2.out.c0
                  obtain ⟨LS, hLS⟩ : ∃ t, z.body.lsn = t := ⟨_, rfl⟩
                  have HLS : Hid (LS < 9223372036854775808) := by unfold Hid; rw [← hLS]; exact HIN.out.lsn
                  rw [hLS] at HPB; have HG3 : Hid (Gq G) := HUX.out.2; have HU8 := HU2; have HOB8 := HOB2; have HPB8 := HPB; clear hLS HU2 HOB2 HPB
                  go_upto_region 37 with fail
                  clear b0
                  obtain ⟨q0, q1, q2, q3, q4, q5, _⟩ := HPB8.out; have HOA := hide (onlyA W2 (.cells #[.int .i64 LS, .int .i64 z.body.kind, .int .i64 z.body.level, .int .i64 z.body.right, .string z.body.high, .slice z.ab z.body.items.length z.cb] 45)); have HPV := hide (Pag.new W2 (.int .i64 LS) (.int .i64 z.body.kind) (.int .i64 z.body.level) (.int .i64 z.body.right) (.string z.body.high) (.slice z.ab z.body.items.length z.cb))
                  go_upto_region 38 with fail
                  clear q0 q1 q2 q3 q4 q5
                  have HVB : Hid (W2.heap.size < (W2.alloc (.cells #[.int .i64 LS, .int .i64 z.body.kind, .int .i64 z.body.level, .int .i64 z.body.right, .string z.body.high, .slice z.ab z.body.items.length z.cb] 45)).heap.size) := by unfold Hid; simp
                  obtain ⟨vb, hvb⟩ : ∃ b, W2.heap.size = b := ⟨_, rfl⟩; obtain ⟨W9, hW9⟩ : ∃ y, W2.alloc (.cells #[.int .i64 LS, .int .i64 z.body.kind, .int .i64 z.body.level, .int .i64 z.body.right, .string z.body.high, .slice z.ab z.body.items.length z.cb] 45) = y := ⟨_, rfl⟩; rw [hW9] at HOA HPV HVB ⊢; rw [hvb] at HPV HVB ⊢; have HOW9 := hide (o2 HU8.out.only HOA.out); obtain ⟨aq, cq, Bq, w10, hr10, hs10, hn10, hb10, ho10⟩ := copy_made W9 z.B z.cb z.ab z.body.items (HIN.out.strs.more HOW9.out) HIN.out.fit; have HR10 := hide hr10; have HPB9 := hide (HPB8.out.more HOA.out); have h5 := (HPB9.out.more (onlyA W9 (.cells #[] 9))).c5; have HPV10 := hide (HPV.out.more ho10); have v5 := HPV10.out.c5; have g5 := HPV10.out.f5; have HOV : Hid (Only (fun k => k = vb) w10 (w10.setCell ⟨vb, 5, none⟩ (.slice aq z.body.items.length cq))) := Only.setCell w10 ⟨vb, 5, none⟩ _ rfl; have HO11 : Hid (Only (fun _ => False) W2 (w10.setCell ⟨vb, 5, none⟩ (.slice aq z.body.items.length cq))) := (o2 HOA.out ho10).trans HOV.out (fun i hi e => by omega); have hz8 := HVB.out; have hz10 := ho10.size; have hz11 := HOV.out.size
                  have HNE : Hid (0 < z.body.items.length → Bq ≠ xb ∧ Bq ≠ vb) := fun h0 => by
                    have h1 := hb10 h0; have h2 := HOB8.out.lt
                    exact ⟨by omega, by omega⟩
                  have HU11 : Hid (Uq w (w10.setCell ⟨vb, 5, none⟩ (.slice aq z.body.items.length cq)) p d l q xd x P D G P D G (fun k => (k = xb ∨ k = bb) ∨ k = vb ∨ k = Bq ∧ 0 < z.body.items.length)) := HU8.out.fresh HO11.out (fun k hk => by
                    rcases hk with e | e | e
                    · exact .inl e
                    · exact .inr ⟨by omega, by omega⟩
                    · have h1 := hb10 e.2
                      have h2 := hs10.lt e.2
                      exact .inr ⟨by omega, by omega⟩)
                  have HOB11 := hide (HOB8.out.kept HO11.out (fun e => e)); have HPB11 := hide (HPB8.out.more HO11.out); have HPV11 := hide (HPV10.out.set5 (.slice aq z.body.items.length cq)); have HS11 := hide (hs10.kept HOV.out (fun h0 => (HNE.out h0).2)); have HN11 := hide (hn10.kept HOV.out (fun h0 => (HNE.out h0).2)); clear hr10 hs10 hn10 hb10 ho10 hz8 hz10 hz11 hW9 hvb
                  go_upto_region 39 with (at_builtin; go_must (refine Lib.wpList_append_run _ rfl _ _ _ _ rfl _ _ rfl rfl _ _ HR10.out ?_))
                  clear h5 v5 g5 HR10; obtain ⟨W11, hW11⟩ : ∃ y, w10.setCell ⟨vb, 5, none⟩ (.slice aq z.body.items.length cq) = y := ⟨_, rfl⟩; rw [hW11] at HU11 HOB11 HPB11 HPV11 HS11 HN11 ⊢; clear hW11 HO11 HOV HPV10 HPB9 HPV HPB8 HOB8 HOA HOW9 HVB; obtain ⟨bd, hbd⟩ : ∃ b : Pg, (⟨LS, z.body.kind, z.body.level, z.body.right, z.body.high, z.body.items⟩ : Pg) = b := ⟨_, rfl⟩; obtain ⟨O, hO⟩ : ∃ O, P.set D G z.page bd z.pick = O := ⟨_, rfl⟩
                  have HA : Hid (Calls Tryz.prog 17 #[.pointer (some ⟨p, 0, none⟩), .int .i64 z.page, .agg #[.int .i64 LS, .int .i64 z.body.kind, .int .i64 z.body.level, .int .i64 z.body.right, .string z.body.high, .slice aq z.body.items.length cq], .int .i64 z.pick] W11 fun e w' => e = .returned (.int .i64 O.c) ∧ Uq w w' p d l q xd x O.P O.D O.G P D G (fun k => (k = xb ∨ k = bb) ∨ k = vb ∨ k = Bq ∧ 0 < z.body.items.length) ∧ Only (Chg w (fun k => (k = xb ∨ k = bb) ∨ k = vb ∨ k = Bq ∧ 0 < z.body.items.length)) W11 w') := by
                    have := uq_oset HU11.out z.page z.pick ⟨LS, z.body.kind, z.body.level, z.body.right, z.body.high, z.body.items⟩ Bq aq cq HS11.out (fun h0 => .inr (.inr ⟨rfl, h0⟩)) HIN.out.high HLS.out; rw [hbd, hO] at this; rw [← hbd] at this
                    exact this
                  have HB : Hid (∀ U, Uq w U p d l q xd x O.P O.D O.G P D G (fun k => (k = xb ∨ k = bb) ∨ k = vb ∨ k = Bq ∧ 0 < z.body.items.length) → Calls Tryz.prog 18 #[.pointer (some ⟨q, 0, none⟩), .int .i64 z.page, .agg #[.int .i64 LS, .int .i64 z.body.kind, .int .i64 z.body.level, .int .i64 z.body.right, .string z.body.high, .slice z.ab z.body.items.length z.cb], .int .i64 z.pick] U fun e w' => e = .returned (.int .i64 O.c) ∧ Uq w w' p d l q xd x O.P O.D O.G O.P O.D O.G (fun k => (k = xb ∨ k = bb) ∨ k = vb ∨ k = Bq ∧ 0 < z.body.items.length) ∧ Only (Chg w (fun k => (k = xb ∨ k = bb) ∨ k = vb ∨ k = Bq ∧ 0 < z.body.items.length)) U w') := fun U hU => by
                    have := uq_gset hU HUX.out.1 HU11.out.ok.1 z.page z.pick ⟨LS, z.body.kind, z.body.level, z.body.right, z.body.high, z.body.items⟩ z.B z.cb z.ab HIN.out.strs HIN.out.fit HIN.out.high HLS.out; rw [hbd, hO] at this; rw [← hbd] at this
                    exact this
                  have HXF : Hid (O.P.Ux ∧ Gq O.G) := by rw [← hO]; exact ⟨ux_set HUX.out.1 _ _ _ _ _, HG3.out.alike (alike_set _ _ _ _ _ _)⟩
                  have hnl := HIN.out.strs.len; clear hbd hO; obtain ⟨nI, hnI⟩ : ∃ n, z.body.items.length = n := ⟨_, rfl⟩; rw [hnI] at HA HB HN11 HPV11 HPB11 HNE hnl ⊢; have HNI := hide hnI; clear hnI; obtain ⟨q0, q1, q2, q3, q4, q5, _⟩ := HPV11.out; have b1 := HOB11.out.c1; have b2 := HOB11.out.c2
                  go_wp2_with fail
                  refine HA.out.mono ?_; rintro e w12 ⟨rfl, hu12, ho12⟩; have HU12 := hide hu12; have HOB12 := hide (HOB11.out.kept ho12 (fun e => e.1 (.inl (.inl rfl)))); have HPB12 := hide (HPB11.out.kept ho12 (fun e => e.1 (.inl (.inr rfl)))); have HPV12 := hide (HPV11.out.kept ho12 (fun e => e.1 (.inr (.inl rfl)))); have HN12 := hide (HN11.out.kept ho12 (fun h0 e => e.1 (.inr (.inr ⟨rfl, h0⟩)))); clear hu12 ho12 q0 q1 q2 q3 q4 q5 b1 b2 HU11 HOB11 HPB11 HPV11 HN11 HS11 HA; obtain ⟨q0, q1, q2, q3, q4, q5, _⟩ := HPB12.out; have b1 := HOB12.out.c1; have b2 := HOB12.out.c2
                  go_wp2_with fail
                  refine (HB.out _ HU12.out).mono ?_; rintro e w13 ⟨rfl, hu13, ho13⟩; have HU13 := hide hu13; have HOB13 := hide (HOB12.out.kept ho13 (fun e => e.1 (.inl (.inl rfl)))); have HPV13 := hide (HPV12.out.kept ho13 (fun e => e.1 (.inr (.inl rfl)))); have HN13 := hide (HN12.out.kept ho13 (fun h0 e => e.1 (.inr (.inr ⟨rfl, h0⟩)))); clear hu13 ho13 q0 q1 q2 q3 q4 q5 b1 b2 HU12 HOB12 HPB12 HPV12 HN12 HB
                  go_wp2_with fail
                  go_loopw [32] (fun y wr => ∃ (n : Nat), n ≤ nI ∧ y = .int .i64 (n : Int) ∧ Hid (Uq w wr p d l q xd x O.P O.D O.G O.P O.D O.G (fun k => (k = xb ∨ k = bb) ∨ k = vb ∨ k = Bq ∧ 0 < nI)) ∧ Hid (Ob wr xb z) ∧ Hid (Pag wr vb (.int .i64 LS) (.int .i64 z.body.kind) (.int .i64 z.body.level) (.int .i64 z.body.right) (.string z.body.high) (.slice aq nI cq)) ∧ Hid (Nos wr Bq aq nI)) (fun y _ => nI - (intOf y).toNat)
                  case atStart => exact ⟨0, Nat.zero_le _, rfl, HU13, HOB13, HPV13, HN13⟩
                  case round =>
                    obtain ⟨n, hn, rfl, HUn, HOBn, HPSn, HNSn⟩ := hrel; have c5 := HPSn.out.c5
                    by_cases hlt2 : n < nI
                    · have hl2 : (n : Int) < (nI : Int) := by omega
                      obtain ⟨oq, haq, hcq⟩ := HNSn.out.at_ (by omega); subst haq; obtain ⟨u, hu⟩ := hcq n hlt2; have fu := HNSn.out.fz (by omega) (oq + n); have hne := HNE.out (by omega); have hne1 := hne.1; have hne2 := hne.2; have HOS : Hid (Only (fun k => k = Bq) wr (wr.setCell ⟨Bq, oq + n, none⟩ (.string ⟨#[110, 111]⟩))) := Only.setCell wr ⟨Bq, oq + n, none⟩ _ rfl; have HU9 := hide (HUn.out.side HOS.out (fun k hk => .inr (.inr ⟨hk, by omega⟩))); have HOB9 := hide (HOBn.out.kept HOS.out (fun e => hne1 e.symm)); have HPS9 := hide (HPSn.out.kept HOS.out (fun e => hne2 e.symm)); have HNS9 := hide (HNSn.out.put n hlt2 ⟨#[110, 111]⟩); clear hcq hne
                      go_wp2_with fail
                      go_roundw
                      case rel => exact ⟨n + 1, by omega, by go_num, HU9, HOB9, HPS9, HNS9⟩
                      case measure => simp [intOf]; omega
                    · have hl2 : ¬ (n : Int) < (nI : Int) := by omega
                      have HU9 := hide (HUn.out.weak (K' := fun k => k = xb) (fun k hk => .inl (.inl hk)))
                      go_wp2_with fail
                      go_meet
                      exact ⟨O.c, O.P, O.D, O.G, rfl, rfl, HU9, HOBn, HXF⟩
              · have a5 : (z.ask == 5) = false := by simp [h5]
                by_cases h2 : z.ask = 2
                · have a2 : (z.ask == 2) = true := by simp [h2]
                  have n0 : (z.ask == 0) = false := by simp [h2]
                  have n1 : (z.ask == 1) = false := by simp [h2]
                  have n5 : (z.ask == 5) = false := by simp [h2]
                  have n3 : (z.ask == 3) = false := by simp [h2]
                  have n4 : (z.ask == 4) = false := by simp [h2]
                  clear h2
                  as_aux_lemma =>
                    have b1 := HOB0.out.c1; obtain ⟨O, hO⟩ : ∃ O, P.writeN D G z.page = O := ⟨_, rfl⟩; have HA := hide (uq_owrite HU1.out z.page); rw [hO] at HA
                    go_wp2_with fail
                    refine HA.out.mono ?_; rintro e w3 ⟨rfl, hu3, ho3⟩; have HB := hide (uq_gwrite hu3 HUX.out.1 HU1.out.ok.1 z.page); rw [hO] at HB; have HOB3 := hide (HOB0.out.kept ho3 (fun e => e.1 rfl)); clear hu3 ho3 b1 HA; have b1 := HOB3.out.c1
                    go_wp2_with fail
                    refine HB.out.mono ?_; rintro e w4 ⟨rfl, hu4, ho4⟩; have HU4 := hide hu4; have HOB4 := hide (HOB3.out.kept ho4 (fun e => e.1 rfl))
                    have HX4 : Hid (O.P.Ux ∧ Gq O.G) := by rw [← hO]; exact ⟨ux_writeN HUX.out.1 _ _ _, HUX.out.2.alike (alike_writeN _ _ _ _)⟩
                    clear hu4 ho4 b1 hO HB
                    go_wp2_with fail
                    go_meet
                    exact ⟨O.c, O.P, O.D, O.G, rfl, rfl, HU4, HOB4, HX4⟩
                · have a2 : (z.ask == 2) = false := by simp [h2]
                  by_cases h3 : z.ask = 3
                  · have a3 : (z.ask == 3) = true := by simp [h3]
                    have n0 : (z.ask == 0) = false := by simp [h3]
                    have n1 : (z.ask == 1) = false := by simp [h3]
                    have n5 : (z.ask == 5) = false := by simp [h3]
                    have n2 : (z.ask == 2) = false := by simp [h3]
                    have n4 : (z.ask == 4) = false := by simp [h3]
                    clear h3
                    as_aux_lemma =>
                      obtain ⟨O, hO⟩ : ∃ O, D.sync = O := ⟨_, rfl⟩; have HA := hide (uq_osync HU1.out); rw [hO] at HA
                      go_wp2_with fail
                      refine HA.out.mono ?_; rintro e w3 ⟨rfl, hu3, ho3⟩; have HB := hide (uq_gsync hu3); rw [hO] at HB; have HOB3 := hide (HOB0.out.kept ho3 (fun e => e.1 rfl)); clear hu3 ho3 HA
                      go_wp2_with fail
                      refine HB.out.mono ?_; rintro e w4 ⟨rfl, hu4, ho4⟩; have HU4 := hide hu4; have HOB4 := hide (HOB3.out.kept ho4 (fun e => e.1 rfl)); clear hu4 ho4 hO HB
                      go_wp2_with fail
                      refine (uq_osynced HU4.out).mono ?_; rintro e w5 ⟨rfl, hu5, ho5⟩; have HU5 := hide hu5; have HOB5 := hide (HOB4.out.kept ho5 (fun e => e.1 rfl)); clear hu5 ho5
                      go_wp2_with fail
                      refine (uq_gsynced HU5.out HUX.out.1).mono ?_; rintro e w6 ⟨rfl, hu6, ho6⟩; have HU6 := hide hu6; have HOB6 := hide (HOB5.out.kept ho6 (fun e => e.1 rfl)); clear hu6 ho6
                      go_wp2_with fail
                      go_meet
                      exact ⟨O.2, P.synced, O.1, G, rfl, rfl, HU6, HOB6, ⟨ux_synced HUX.out.1, HUX.out.2⟩⟩
                  · have a3 : (z.ask == 3) = false := by simp [h3]
                    by_cases h4 : z.ask = 4
                    · have a4 : (z.ask == 4) = true := by simp [h4]
                      have n0 : (z.ask == 0) = false := by simp [h4]
                      have n1 : (z.ask == 1) = false := by simp [h4]
                      have n5 : (z.ask == 5) = false := by simp [h4]
                      have n2 : (z.ask == 2) = false := by simp [h4]
                      have n3 : (z.ask == 3) = false := by simp [h4]
                      clear h4
                      as_aux_lemma =>
                        have b2 := HOB0.out.c2; obtain ⟨O, hO⟩ : ∃ O, D.arm z.pick = O := ⟨_, rfl⟩; have HA := hide (uq_oarm HU1.out z.pick HIN.out.pick.2); rw [hO] at HA
                        go_wp2_with fail
                        refine HA.out.mono ?_; rintro e w3 ⟨rfl, hu3, ho3⟩; have HB := hide (uq_garm hu3 z.pick HIN.out.pick.2); rw [hO] at HB; have HOB3 := hide (HOB0.out.kept ho3 (fun e => e.1 rfl)); clear hu3 ho3 b2 HA; have b2 := HOB3.out.c2
                        go_wp2_with fail
                        refine HB.out.mono ?_; rintro e w4 ⟨rfl, hu4, ho4⟩; have HU4 := hide hu4; have HOB4 := hide (HOB3.out.kept ho4 (fun e => e.1 rfl)); clear hu4 ho4 b2 hO HB
                        go_wp2_with fail
                        go_meet
                        exact ⟨O.2, P, O.1, G, rfl, rfl, HU4, HOB4, HUX⟩
                    · have a4 : (z.ask == 4) = false := by simp [h4]
                      go_wp2_with fail
                      go_meet
                      exact ⟨0, P, D, G, rfl, rfl, HU1, HOB0, HUX⟩
        case rest =>
          obtain ⟨cc, P2, D2, G2, rfl, rfl, HU2, HOB2, HUX2⟩ := hcut; clear HU1 HOB0 HUX; obtain ⟨A2, X2, hT2, hA2⟩ := HU2.out; have HT2 := hide hT2; have x4 := hT2.xh.ww.dk.c4; have HX4 := hide x4; clear hA2 hT2
          by_cases hdead : D2.dead = true
          · rw [hdead] at x4
            have HDD := hide (tq_odead HT2.out); rw [hdead] at HDD; clear hdead
            go_wp2_with fail
            refine HDD.out.mono ?_; rintro e w7 ⟨rfl, ho7⟩; have HO7 := hide (o2 HU2.out.only ho7); clear ho7 x4
            go_wp2_with fail
            refine (oawake_any _).mono ?_; rintro e wz ⟨rfl, hoz⟩; have HOZ := hide (o2 HO7.out hoz); clear hoz
            go_wp2_with fail
            go_ret
            exact ⟨rfl, HOZ.out⟩
          · have hdf : D2.dead = false := by simpa using hdead
            rw [hdf] at x4; clear hdead hdf
            go_wp2_with fail
            refine (tq_oread HT2.out).mono ?_; rintro e w7 ⟨rfl, ho7⟩; have HT7 := hide (HT2.out.more ho7); clear x4; obtain ⟨RS, hRS⟩ : ∃ s, (⟨(D2.read 0 2000).1.toArray⟩ : ByteArray) = s := ⟨_, rfl⟩; have HRS := hide hRS; obtain ⟨RC, hRC⟩ : ∃ s, (D2.read 0 2000).2 = s := ⟨_, rfl⟩; have HRD := hide (tq_gread HT7.out); rw [hRS, hRC] at HRD ⊢; clear hRS hRC
            go_wp2_with fail
            refine HRD.out.mono ?_; rintro e w8 ⟨rfl, ho8⟩; have HT8 := hide (HT7.out.more ho8); have HU8 := hide ((HU2.out.more ho7).more ho8); have HOB8 := hide (HOB2.out.kept (o2 ho7 ho8) (fun e => e)); clear ho7 ho8 HT7 HT2 HU2 HOB2 HRD; have HOH := hide (fun U (ho : Only (fun _ => False) w8 U) => tq_oheld (HT8.out.more ho)); have HGH := hide (fun U (ho : Only (fun _ => False) w8 U) => tq_gheld (HT8.out.more ho)); obtain ⟨FL, hFL⟩ : ∃ l, P2.fs.map Fm.num = l := ⟨_, rfl⟩; simp only [hFL] at HOH HGH; clear hFL; obtain ⟨TL, hTL⟩ : ∃ l, X2.tl = l := ⟨_, rfl⟩; have HOD := hide (fun U (ho : Only (fun _ => False) w8 U) => tq_odirty (HT8.out.more ho)); have HGD := hide (fun U (ho : Only (fun _ => False) w8 U) => tq_gdirty (HT8.out.more ho)); simp only [hTL] at HOD HGD; clear hTL; obtain ⟨OB, hOB⟩ : ∃ b, owB P2 z.page = b := ⟨_, rfl⟩; have HOW := hide (fun U (ho : Only (fun _ => False) w8 U) => tq_oowes (HT8.out.more ho) z.page HIN.out.page); have HGW := hide (fun U (ho : Only (fun _ => False) w8 U) => tq_gowes (HT8.out.more ho) z.page); simp only [hOB] at HOW HGW; clear hOB; obtain ⟨FU, hFU⟩ : ∃ b, G2.flushed = b := ⟨_, rfl⟩; have HOF := hide (fun U (ho : Only (fun _ => False) w8 U) => tq_oflushed (HT8.out.more ho)); have HGF := hide (fun U (ho : Only (fun _ => False) w8 U) => tq_gflushed (HT8.out.more ho)); simp only [hFU] at HOF HGF; clear hFU
            go_upto_region 62 with fail
            go_cut [282] (fun y wc => y = .bool false ∧ Hid (Only (fun _ => False) w8 wc))
            case first =>
              as_aux_lemma =>
                refine wp_region_noPanic ?_; refine wp_region_held_drew (S := fun U => Only (fun _ => False) w8 U) (by kernel_rfl) (Only.drew _ _) (fun hHeld => ?_); refine tkQ (i := 0) (oi := { dst := some 246, op := Op.move (Operand.tmp 33), type := 9, pos := "law.go:128", after := #[], guard := none }) (v := .string RS) rfl (by kernel_rfl) (Or.inl ⟨by rfl, fun w' hSw => by clear hSw; go_simp⟩) (by assumption) ?_; simp only [Act.put, lsA, lsB, lsC]; refine tkQ (i := 1) (oi := { dst := some 247, op := Op.move (Operand.tmp 35), type := 9, pos := "law.go:128", after := #[], guard := none }) (v := .string RS) rfl (by kernel_rfl) (Or.inl ⟨by rfl, fun w' hSw => by clear hSw; go_simp⟩) (by assumption) ?_; simp only [Act.put, lsA, lsB, lsC]; refine tkQ (i := 2) (oi := { dst := some 248, op := Op.binOp BinOp.neq 9 (Operand.tmp 246) (Operand.tmp 247) 9, type := 4, pos := "law.go:128", after := #[{ on := 0, ground := Ground.data }, { on := 1, ground := Ground.data }], guard := none }) (v := .bool false) rfl (by kernel_rfl) (Or.inl ⟨by rfl, fun w' hSw => by clear hSw; go_simp⟩) (by assumption) ?_; simp only [Act.put, lsA, lsB, lsC]; refine tkQ (i := 3) (oi := { dst := some 249, op := Op.move (Operand.tmp 248), type := 4, pos := "law.go:128", after := #[{ on := 2, ground := Ground.data }], guard := none }) (v := .bool false) rfl (by kernel_rfl) (Or.inl ⟨by rfl, fun w' hSw => by clear hSw; go_simp⟩) (by assumption) ?_; simp only [Act.put, lsA, lsB, lsC]; refine tkQ (i := 4) (oi := { dst := some 250, op := Op.move (Operand.tmp 15), type := 36, pos := "law.go:128", after := #[{ on := 3, ground := Ground.guard }], guard := some (3, false) }) (v := .pointer (some ⟨p, 0, none⟩)) rfl (by kernel_rfl) (Or.inl ⟨by rfl, fun w' hSw => by clear hSw; go_simp⟩) (by assumption) ?_
                simp only [Act.put, lsA, lsB, lsC]; refine tkQ (i := 6) (oi := { dst := some 252, op := Op.move (Operand.tmp 17), type := 39, pos := "law.go:128", after := #[{ on := 3, ground := Ground.guard }], guard := some (3, false) }) (v := .pointer (some ⟨q, 0, none⟩)) rfl (by kernel_rfl) (Or.inl ⟨by rfl, fun w' hSw => by clear hSw; go_simp⟩) (by assumption) ?_; simp only [Act.put, lsA, lsB, lsC]; refine wpAnyH_ready (rs := [5]) (by kernel_rfl) (by simp) ?_; refine AllReadyH.cons (o := { dst := some 251, op := Op.call { callee := Callee.value (Operand.func 31), args := #[Operand.tmp 250], argTypes := #[36] }, type := 56, pos := "law.go:128", after := #[{ on := 4, ground := Ground.data }, { on := 3, ground := Ground.chain }, { on := 3, ground := Ground.guard }], guard := some (3, false) }) rfl (fun K hK => ?_) (AllReadyH.nil)
                go_simp
                refine (HOD.out _ hHeld).mono ?_; rintro e y1 ⟨B1, a1, c1, rfl, hp1, hy⟩; have HP1 := hide hp1; clear hp1; have HY1 := hide (o2 hHeld hy); clear hy; refine hK.out _ _ (HY1.out) (fun hHeld => ?_); clear hK K
                try simp only [Act.put, lsA, lsB, lsC]
                refine wpAnyH_ready (rs := [7]) (by kernel_rfl) (by simp) ?_; refine AllReadyH.cons (o := { dst := some 253, op := Op.call { callee := Callee.value (Operand.func 32), args := #[Operand.tmp 252], argTypes := #[39] }, type := 56, pos := "law.go:128", after := #[{ on := 6, ground := Ground.data }, { on := 5, ground := Ground.chain }, { on := 3, ground := Ground.guard }], guard := some (3, false) }) rfl (fun K hK => ?_) (AllReadyH.nil)
                go_simp
                refine (HGD.out _ hHeld).mono ?_; rintro e y2 ⟨B2, a2, c2, rfl, hp2, hy⟩; have HP2 := hide hp2; have HP1 := hide (HP1.out.more hy); clear hp2; have HY2 := hide (o2 hHeld hy); clear hy; refine hK.out _ _ (HY2.out) (fun hHeld => ?_); clear hK K
                try simp only [Act.put, lsA, lsB, lsC]
                refine wpAnyH_ready (rs := [8]) (by kernel_rfl) (by simp) ?_; refine AllReadyH.cons (o := { dst := some 254, op := Op.call { callee := Callee.value (Operand.func 30), args := #[Operand.tmp 251, Operand.tmp 253], argTypes := #[56, 56] }, type := 4, pos := "law.go:128", after := #[{ on := 5, ground := Ground.data }, { on := 7, ground := Ground.data }, { on := 7, ground := Ground.chain }, { on := 3, ground := Ground.guard }], guard := some (3, false) }) rfl (fun K hK => ?_) (AllReadyH.nil)
                go_simp
                refine (owed_true _ B1 B2 c1 c2 a1 a2 TL HP1.out HP2.out).mono ?_; rintro e y3 ⟨rfl, hy⟩; have HY3 := hide (o2 hHeld hy); clear hy; refine hK.out _ _ (HY3.out) (fun hHeld => ?_); clear hK K
                try simp only [Act.put, lsA, lsB, lsC]
                refine tkQ (i := 9) (oi := { dst := some 255, op := Op.unOp UnOp.not 4 (Operand.tmp 254), type := 4, pos := "law.go:128", after := #[{ on := 8, ground := Ground.data }, { on := 3, ground := Ground.guard }], guard := some (3, false) }) (v := .bool false) rfl (by kernel_rfl) (Or.inl ⟨by rfl, fun w' hSw => by clear hSw; go_simp⟩) (by assumption) ?_; simp only [Act.put, lsA, lsB, lsC]; refine tkQ (i := 10) (oi := { dst := some 256, op := Op.pick (Operand.tmp 249) (Operand.const (Value.bool true)) (Operand.tmp 255), type := 4, pos := "law.go:128", after := #[{ on := 3, ground := Ground.data }, { on := 9, ground := Ground.data }], guard := none }) (v := .bool false) rfl (by kernel_rfl) (Or.inl ⟨by rfl, fun w' hSw => by clear hSw; go_simp⟩) (by assumption) ?_; simp only [Act.put, lsA, lsB, lsC]; refine tkQ (i := 11) (oi := { dst := some 257, op := Op.move (Operand.tmp 256), type := 4, pos := "law.go:128", after := #[{ on := 10, ground := Ground.data }, { on := 8, ground := Ground.chain }], guard := none }) (v := .bool false) rfl (by kernel_rfl) (Or.inl ⟨by rfl, fun w' hSw => by clear hSw; go_simp⟩) (by assumption) ?_; simp only [Act.put, lsA, lsB, lsC]; refine tkQ (i := 12) (oi := { dst := some 258, op := Op.move (Operand.tmp 15), type := 36, pos := "law.go:128", after := #[{ on := 11, ground := Ground.guard }], guard := some (11, false) }) (v := .pointer (some ⟨p, 0, none⟩)) rfl (by kernel_rfl) (Or.inl ⟨by rfl, fun w' hSw => by clear hSw; go_simp⟩) (by assumption) ?_; simp only [Act.put, lsA, lsB, lsC]
                refine tkQ (i := 14) (oi := { dst := some 260, op := Op.move (Operand.tmp 17), type := 39, pos := "law.go:128", after := #[{ on := 11, ground := Ground.guard }], guard := some (11, false) }) (v := .pointer (some ⟨q, 0, none⟩)) rfl (by kernel_rfl) (Or.inl ⟨by rfl, fun w' hSw => by clear hSw; go_simp⟩) (by assumption) ?_; simp only [Act.put, lsA, lsB, lsC]; refine wpAnyH_ready (rs := [13]) (by kernel_rfl) (by simp) ?_; refine AllReadyH.cons (o := { dst := some 259, op := Op.call { callee := Callee.value (Operand.func 34), args := #[Operand.tmp 258], argTypes := #[36] }, type := 54, pos := "law.go:128", after := #[{ on := 12, ground := Ground.data }, { on := 11, ground := Ground.chain }, { on := 11, ground := Ground.guard }], guard := some (11, false) }) rfl (fun K hK => ?_) (AllReadyH.nil)
                go_simp
                refine (HOH.out _ hHeld).mono ?_; rintro e y4 ⟨B3, a3, c3, rfl, hp3, hy⟩; have HP3 := hide hp3; clear hp3; have HY4 := hide (o2 hHeld hy); clear hy; refine hK.out _ _ (HY4.out) (fun hHeld => ?_); clear hK K
                try simp only [Act.put, lsA, lsB, lsC]
                refine wpAnyH_ready (rs := [15]) (by kernel_rfl) (by simp) ?_; refine AllReadyH.cons (o := { dst := some 261, op := Op.call { callee := Callee.value (Operand.func 35), args := #[Operand.tmp 260], argTypes := #[39] }, type := 54, pos := "law.go:128", after := #[{ on := 14, ground := Ground.data }, { on := 13, ground := Ground.chain }, { on := 11, ground := Ground.guard }], guard := some (11, false) }) rfl (fun K hK => ?_) (AllReadyH.nil)
                go_simp
                refine (HGH.out _ hHeld).mono ?_; rintro e y5 ⟨B4, a4, c4, rfl, hp4, hy⟩; have HP4 := hide hp4; have HP3 := hide (HP3.out.kept hy (fun _ h => h)); clear hp4; have HY5 := hide (o2 hHeld hy); clear hy; refine hK.out _ _ (HY5.out) (fun hHeld => ?_); clear hK K
                try simp only [Act.put, lsA, lsB, lsC]
                refine wpAnyH_ready (rs := [16]) (by kernel_rfl) (by simp) ?_; refine AllReadyH.cons (o := { dst := some 262, op := Op.call { callee := Callee.value (Operand.func 33), args := #[Operand.tmp 259, Operand.tmp 261], argTypes := #[54, 54] }, type := 4, pos := "law.go:128", after := #[{ on := 13, ground := Ground.data }, { on := 15, ground := Ground.data }, { on := 15, ground := Ground.chain }, { on := 11, ground := Ground.guard }], guard := some (11, false) }) rfl (fun K hK => ?_) (AllReadyH.nil)
                go_simp
                refine (sameInts_true _ B3 B4 c3 c4 a3 a4 FL HP3.out HP4.out).mono ?_; rintro e y6 ⟨rfl, hy⟩; have HY6 := hide (o2 hHeld hy); clear hy; refine hK.out _ _ (HY6.out) (fun hHeld => ?_); clear hK K
                try simp only [Act.put, lsA, lsB, lsC]
                refine tkQ (i := 17) (oi := { dst := some 263, op := Op.unOp UnOp.not 4 (Operand.tmp 262), type := 4, pos := "law.go:128", after := #[{ on := 16, ground := Ground.data }, { on := 11, ground := Ground.guard }], guard := some (11, false) }) (v := .bool false) rfl (by kernel_rfl) (Or.inl ⟨by rfl, fun w' hSw => by clear hSw; go_simp⟩) (by assumption) ?_; simp only [Act.put, lsA, lsB, lsC]; refine tkQ (i := 18) (oi := { dst := some 264, op := Op.pick (Operand.tmp 257) (Operand.const (Value.bool true)) (Operand.tmp 263), type := 4, pos := "law.go:128", after := #[{ on := 11, ground := Ground.data }, { on := 17, ground := Ground.data }], guard := none }) (v := .bool false) rfl (by kernel_rfl) (Or.inl ⟨by rfl, fun w' hSw => by clear hSw; go_simp⟩) (by assumption) ?_; simp only [Act.put, lsA, lsB, lsC]; refine tkQ (i := 19) (oi := { dst := some 265, op := Op.move (Operand.tmp 264), type := 4, pos := "law.go:128", after := #[{ on := 18, ground := Ground.data }, { on := 16, ground := Ground.chain }], guard := none }) (v := .bool false) rfl (by kernel_rfl) (Or.inl ⟨by rfl, fun w' hSw => by clear hSw; go_simp⟩) (by assumption) ?_; simp only [Act.put, lsA, lsB, lsC]; refine tkQ (i := 20) (oi := { dst := some 266, op := Op.move (Operand.tmp 15), type := 36, pos := "law.go:128", after := #[{ on := 19, ground := Ground.guard }], guard := some (19, false) }) (v := .pointer (some ⟨p, 0, none⟩)) rfl (by kernel_rfl) (Or.inl ⟨by rfl, fun w' hSw => by clear hSw; go_simp⟩) (by assumption) ?_; simp only [Act.put, lsA, lsB, lsC]
                refine tkQ (i := 21) (oi := { dst := some 267, op := Op.fieldAddr 47 (Operand.tmp 20) 1, type := 0, pos := "law.go:128", after := #[{ on := 19, ground := Ground.guard }], guard := some (19, false) }) (v := .pointer (some ⟨xb, 1, none⟩)) rfl (by kernel_rfl) (Or.inl ⟨by rfl, fun w' hSw => by clear hSw; go_simp⟩) (by assumption) ?_; simp only [Act.put, lsA, lsB, lsC]; refine tkQ (i := 24) (oi := { dst := some 270, op := Op.move (Operand.tmp 17), type := 39, pos := "law.go:128", after := #[{ on := 19, ground := Ground.guard }], guard := some (19, false) }) (v := .pointer (some ⟨q, 0, none⟩)) rfl (by kernel_rfl) (Or.inl ⟨by rfl, fun w' hSw => by clear hSw; go_simp⟩) (by assumption) ?_; simp only [Act.put, lsA, lsB, lsC]; refine tkQ (i := 25) (oi := { dst := some 271, op := Op.fieldAddr 47 (Operand.tmp 20) 1, type := 0, pos := "law.go:128", after := #[{ on := 19, ground := Ground.guard }], guard := some (19, false) }) (v := .pointer (some ⟨xb, 1, none⟩)) rfl (by kernel_rfl) (Or.inl ⟨by rfl, fun w' hSw => by clear hSw; go_simp⟩) (by assumption) ?_; simp only [Act.put, lsA, lsB, lsC]; refine tkQ (i := 22) (oi := { dst := some 268, op := Op.load 3 (Operand.tmp 267), type := 3, pos := "law.go:128", after := #[{ on := 21, ground := Ground.data }, { on := 19, ground := Ground.guard }], guard := some (19, false) }) (v := .int .i64 z.page) rfl (by kernel_rfl) (yieldsIf_load_cell (by rfl) 3 _ rfl _ rfl (fun W hW => (hW.cell (p := ⟨xb, 1, none⟩) HOB8.out.lt (fun h => h)).trans HOB8.out.c1) (fun W hc => ld_int hc)) (by assumption) ?_
                simp only [Act.put, lsA, lsB, lsC]; refine tkQ (i := 26) (oi := { dst := some 272, op := Op.load 3 (Operand.tmp 271), type := 3, pos := "law.go:128", after := #[{ on := 25, ground := Ground.data }, { on := 19, ground := Ground.guard }], guard := some (19, false) }) (v := .int .i64 z.page) rfl (by kernel_rfl) (yieldsIf_load_cell (by rfl) 3 _ rfl _ rfl (fun W hW => (hW.cell (p := ⟨xb, 1, none⟩) HOB8.out.lt (fun h => h)).trans HOB8.out.c1) (fun W hc => ld_int hc)) (by assumption) ?_; simp only [Act.put, lsA, lsB, lsC]; refine wpAnyH_ready (rs := [23]) (by kernel_rfl) (by simp) ?_; refine AllReadyH.cons (o := { dst := some 269, op := Op.call { callee := Callee.value (Operand.func 36), args := #[Operand.tmp 266, Operand.tmp 268], argTypes := #[36, 3] }, type := 4, pos := "law.go:128", after := #[{ on := 20, ground := Ground.data }, { on := 22, ground := Ground.data }, { on := 19, ground := Ground.chain }, { on := 19, ground := Ground.guard }], guard := some (19, false) }) rfl (fun K hK => ?_) (AllReadyH.nil)
                go_simp
                refine (HOW.out _ hHeld).mono ?_; rintro e y7 ⟨rfl, hy⟩; have HY7 := hide (o2 hHeld hy); clear hy; refine hK.out _ _ (HY7.out) (fun hHeld => ?_); clear hK K
                try simp only [Act.put, lsA, lsB, lsC]
                refine wpAnyH_ready (rs := [27]) (by kernel_rfl) (by simp) ?_; refine AllReadyH.cons (o := { dst := some 273, op := Op.call { callee := Callee.value (Operand.func 37), args := #[Operand.tmp 270, Operand.tmp 272], argTypes := #[39, 3] }, type := 4, pos := "law.go:128", after := #[{ on := 24, ground := Ground.data }, { on := 26, ground := Ground.data }, { on := 23, ground := Ground.chain }, { on := 19, ground := Ground.guard }], guard := some (19, false) }) rfl (fun K hK => ?_) (AllReadyH.nil)
                go_simp
                refine (HGW.out _ hHeld).mono ?_; rintro e y8 ⟨rfl, hy⟩; have HY8 := hide (o2 hHeld hy); clear hy; refine hK.out _ _ (HY8.out) (fun hHeld => ?_); clear hK K
                try simp only [Act.put, lsA, lsB, lsC]
                refine tkQ (i := 28) (oi := { dst := some 274, op := Op.binOp BinOp.neq 4 (Operand.tmp 269) (Operand.tmp 273) 4, type := 4, pos := "law.go:128", after := #[{ on := 23, ground := Ground.data }, { on := 27, ground := Ground.data }, { on := 19, ground := Ground.guard }], guard := some (19, false) }) (v := .bool false) rfl (by kernel_rfl) (Or.inl ⟨by rfl, fun w' hSw => by clear hSw; go_simp⟩) (by assumption) ?_; simp only [Act.put, lsA, lsB, lsC]; refine tkQ (i := 29) (oi := { dst := some 275, op := Op.pick (Operand.tmp 265) (Operand.const (Value.bool true)) (Operand.tmp 274), type := 4, pos := "law.go:128", after := #[{ on := 19, ground := Ground.data }, { on := 28, ground := Ground.data }], guard := none }) (v := .bool false) rfl (by kernel_rfl) (Or.inl ⟨by rfl, fun w' hSw => by clear hSw; go_simp⟩) (by assumption) ?_; simp only [Act.put, lsA, lsB, lsC]; refine tkQ (i := 30) (oi := { dst := some 276, op := Op.move (Operand.tmp 275), type := 4, pos := "law.go:128", after := #[{ on := 29, ground := Ground.data }, { on := 27, ground := Ground.chain }], guard := none }) (v := .bool false) rfl (by kernel_rfl) (Or.inl ⟨by rfl, fun w' hSw => by clear hSw; go_simp⟩) (by assumption) ?_; simp only [Act.put, lsA, lsB, lsC]; refine tkQ (i := 31) (oi := { dst := some 277, op := Op.move (Operand.tmp 11), type := 30, pos := "law.go:128", after := #[{ on := 30, ground := Ground.guard }], guard := some (30, false) }) (v := .pointer (some ⟨l, 0, none⟩)) rfl (by kernel_rfl) (Or.inl ⟨by rfl, fun w' hSw => by clear hSw; go_simp⟩) (by assumption) ?_
                simp only [Act.put, lsA, lsB, lsC]; refine tkQ (i := 33) (oi := { dst := some 279, op := Op.move (Operand.tmp 13), type := 33, pos := "law.go:128", after := #[{ on := 30, ground := Ground.guard }], guard := some (30, false) }) (v := .pointer (some ⟨x, 0, none⟩)) rfl (by kernel_rfl) (Or.inl ⟨by rfl, fun w' hSw => by clear hSw; go_simp⟩) (by assumption) ?_; simp only [Act.put, lsA, lsB, lsC]; refine wpAnyH_ready (rs := [32]) (by kernel_rfl) (by simp) ?_; refine AllReadyH.cons (o := { dst := some 278, op := Op.call { callee := Callee.value (Operand.func 38), args := #[Operand.tmp 277], argTypes := #[30] }, type := 3, pos := "law.go:128", after := #[{ on := 31, ground := Ground.data }, { on := 30, ground := Ground.chain }, { on := 30, ground := Ground.guard }], guard := some (30, false) }) rfl (fun K hK => ?_) (AllReadyH.nil)
                go_simp
                refine (HOF.out _ hHeld).mono ?_; rintro e y9 ⟨rfl, hy⟩; have HY9 := hide (o2 hHeld hy); clear hy; refine hK.out _ _ (HY9.out) (fun hHeld => ?_); clear hK K
                try simp only [Act.put, lsA, lsB, lsC]
                refine wpAnyH_ready (rs := [34]) (by kernel_rfl) (by simp) ?_; refine AllReadyH.cons (o := { dst := some 280, op := Op.call { callee := Callee.value (Operand.func 39), args := #[Operand.tmp 279], argTypes := #[33] }, type := 3, pos := "law.go:128", after := #[{ on := 33, ground := Ground.data }, { on := 32, ground := Ground.chain }, { on := 30, ground := Ground.guard }], guard := some (30, false) }) rfl (fun K hK => ?_) (AllReadyH.nil)
                go_simp
                refine (HGF.out _ hHeld).mono ?_; rintro e yA ⟨rfl, hy⟩; have HYA := hide (o2 hHeld hy); clear hy; refine hK.out _ _ (HYA.out) (fun hHeld => ?_); clear hK K
                try simp only [Act.put, lsA, lsB, lsC]
                refine tkQ (i := 35) (oi := { dst := some 281, op := Op.binOp BinOp.neq 3 (Operand.tmp 278) (Operand.tmp 280) 3, type := 4, pos := "law.go:128", after := #[{ on := 32, ground := Ground.data }, { on := 34, ground := Ground.data }, { on := 30, ground := Ground.guard }], guard := some (30, false) }) (v := .bool false) rfl (by kernel_rfl) (Or.inl ⟨by rfl, fun w' hSw => by clear hSw; go_simp⟩) (by assumption) ?_; simp only [Act.put, lsA, lsB, lsC]; refine tkQ (i := 36) (oi := { dst := some 282, op := Op.pick (Operand.tmp 276) (Operand.const (Value.bool true)) (Operand.tmp 281), type := 4, pos := "law.go:128", after := #[{ on := 30, ground := Ground.data }, { on := 35, ground := Ground.data }], guard := none }) (v := .bool false) rfl (by kernel_rfl) (Or.inl ⟨by rfl, fun w' hSw => by clear hSw; go_simp⟩) (by assumption) ?_; simp only [Act.put, lsA, lsB, lsC]; refine wpAnyH_done (by kernel_rfl) ?_ _; refine NoPanic.normal ?_
                go_wp2_with fail
                go_meet
                exact ⟨rfl, HYA⟩
            case rest =>
              obtain ⟨rfl, HO9⟩ := hcut; have HU9 := hide ((HU8.out.more HO9.out).weak (K' := fun _ => False) (fun _ h => h.elim))
              go_wp2_with fail
              go_roundw
              case rel => exact ⟨j + 1, P2, D2, G2, by omega, by go_num, HU9, HUX2⟩
              case measure => simp [intOf]; omega
      · have hjl : ¬ (j : Int) < (L.length : Int) := by omega
        go_wp2_with fail
        refine (oawake_any _).mono ?_; rintro e wz ⟨rfl, hoz⟩; have HOZ := hide (o2 HU.out.only hoz); clear hoz
        go_wp2_with fail
        go_ret
        exact ⟨rfl, HOZ.out⟩
  · have HBD := hide (onew_bad w4 d l g m Dz HS4.out.dsk dz_len pages frames hb)
    have HB := hide hb; clear hb
    go_wp2_with fail
    refine HBD.out.mono ?_; rintro e w5 ⟨rfl, ho5⟩; have HO5 := hide (o2 HS4.out.only ho5); have HGB := hide (gpnew_bad w5 xd a b c ka kb kc x Dz (HS4.out.xdk.kept ho5 id id id id) dz_len pages frames HB.out); clear ho5
    go_wp2_with fail
    refine HGB.out.mono ?_; rintro e w6 ⟨rfl, rfl⟩
    go_wp2_with fail
    refine (oawake_any _).mono ?_; rintro e wz ⟨rfl, hoz⟩; have HOZ := hide (o2 HO5.out hoz); clear hoz
    go_wp2_with fail
    go_ret
    exact ⟨rfl, HOZ.out⟩
end Go.Proofs.YtebijheonkagfaaGreatDoor
