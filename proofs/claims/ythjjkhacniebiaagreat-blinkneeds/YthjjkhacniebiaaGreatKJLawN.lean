/- BlinkNeeds: its walk. -/
import Derived.Test.YthjjkhacniebiaaGreatK50
namespace Go.Proofs.YthjjkhacniebiaaGreat
open Go.RowKit

set_option maxRecDepth 100000 in
set_option maxHeartbeats 12800000 in
theorem needs_law (w : World) (BL : Nat) (aL : Option Addr) (cL : Nat) (L : List En) (e : En) (hL : Els w BL aL L) (hn : L.length ≤ maxLen) : Calls Tryz.prog 6 #[.slice aL L.length cL, e.agg] w fun x w' => x = .returned (.bool true) ∧ Only (fun _ => False) w w' := by
  have HV := hide (Ev.new w e)
  have HO := hide (onlyA w (.cells #[.string e.key, .int .i64 e.page, .int .i64 e.slot] 41))
  have HL := hide hL
  unfold maxLen at hn
  have HLF := hide (fun W => leaf_any W)
  have HAW := hide (fun W => aawake_any W)
  clear hL
  unfold En.agg
  go_enter Tryz.func6, Tryz.ntmps6
  go_upto_region 1 with fail
  obtain ⟨W0, hW0⟩ : ∃ x, w.alloc (.cells #[.string e.key, .int .i64 e.page, .int .i64 e.slot] 41) = x := ⟨_, rfl⟩
  rw [hW0] at HV HO ⊢
  have HWB : Hid (w.heap.size < W0.heap.size) := HV.out.lt
  clear hW0
  go_wp2_with fail
  refine (HLF.out _).mono ?_
  rintro x w1 ⟨rfl, ho1⟩
  have HO1 := hide ho1
  clear ho1 HLF
  go_upto_region 2 with fail
  have HFM := hide (Fm.start (K := fun _ => False) w1 (fun _ h => h.elim))
  have HOF := hide (o2 (o2 HO1.out (onlyA w1 (.cells #[.int .i64 0, .int .i64 0, .int .i64 0, .int .i64 0, .string ⟨#[]⟩, .slice none 0 0, .int .i64 0, .int .i64 3, .int .i64 0, .int .i64 0, .string ⟨#[]⟩, .slice none 0 0] 24))) (onlyA _ (.cells #[.slice (some ⟨w1.heap.size, 0, none⟩) 2 2] 53)))
  obtain ⟨W2, hW2⟩ : ∃ x, (w1.alloc (.cells #[.int .i64 0, .int .i64 0, .int .i64 0, .int .i64 0, .string ⟨#[]⟩, .slice none 0 0, .int .i64 0, .int .i64 3, .int .i64 0, .int .i64 0, .string ⟨#[]⟩, .slice none 0 0] 24)).alloc (.cells #[.slice (some ⟨w1.heap.size, 0, none⟩) 2 2] 53) = x := ⟨_, rfl⟩
  rw [hW2] at HFM HOF ⊢
  clear hW2
  have HSN : Hid (Sn (fun _ => False) W0 W2 (w1.heap.size + 1) w1.heap.size 2 [Pz.none, zL] 2 (fun _ => lf0) (fun _ => noE) (fun _ => False)) := ⟨HFM.out, Fz.start, Fst.start, by have := HO1.out.size; omega, HO1.out.size⟩
  have HBD : Hid (Bd 2 (fun _ => lf0) 0) := ⟨by omega, by decide⟩
  obtain ⟨f, hf⟩ : ∃ f, w1.heap.size + 1 = f := ⟨_, rfl⟩
  rw [hf] at HSN ⊢
  obtain ⟨g0, hg0⟩ : ∃ g, w1.heap.size = g := ⟨_, rfl⟩
  rw [hg0] at HSN
  clear hf hg0 HFM
  go_upto_region 3 with fail
  go_loopw [6] (fun x wr => ∃ (i : Nat), x = .int .i64 (i : Int) ∧ i ≤ 200 ∧ i ≤ L.length ∧ Hid (∃ g cap zs N F lo A, Sn (fun _ => False) W0 wr f g cap zs N F lo A ∧ Bd N F i) ∧ Hid (Only (fun _ => False) W0 wr)) (fun x _ => L.length - (intOf x).toNat)
  case atStart => exact ⟨0, rfl, by omega, by omega, hide ⟨_, _, _, _, _, _, _, HSN.out, HBD.out⟩, HOF⟩
  case round =>
    obtain ⟨i, rfl, hi, hiL, HS, HW⟩ := hrel
    obtain ⟨g, cap, zs, N, F, lo, A, hSn, hBd⟩ := HS.out
    have HSr := hide hSn
    have HBr := hide hBd
    clear hSn hBd HS HSN HBD
    have hf1 : ∀ k, k = f ∨ k = g → W0.heap.size ≤ k := by
      rintro k (rfl | rfl)
      · exact HSr.out.f0
      · exact HSr.out.g0
    have HFG := hide hf1
    clear hf1
    by_cases hlt : i < L.length ∧ i < 200
    · obtain ⟨hl1, hl2⟩ := hlt
      have hk1 : (i : Int) < (L.length : Int) := by omega
      have hk2 : (i : Int) < 200 := by omega
      have hk3 : ¬ (L.length : Int) ≤ (i : Int) := by omega
      obtain ⟨o, rfl, heb⟩ := (HL.out.kept (o2 HO.out HW.out) (fun _ h => h)).of i hl1
      obtain ⟨q, hq⟩ : ∃ q, L[i] = q := ⟨_, rfl⟩
      rw [hq] at heb
      clear hq
      have HEB := hide heb
      clear heb
      obtain ⟨e0, e1, e2, _⟩ := HEB.out
      cases hok : q.ok with
      | false =>
        have HEC := hide (fun W => enc_no hok W)
        have HB1 := hide (HBr.out.mono (j := i + 1) (by omega))
        clear hok
        go_wp2_with fail
        refine (HEC.out _).mono ?_
        rintro x w3 ⟨rfl, ho⟩
        have HS3 : Hid (∃ g cap zs N F lo A, Sn (fun _ => False) W0 w3 f g cap zs N F lo A ∧ Bd N F (i + 1)) := ⟨_, _, _, _, _, _, _, HSr.out.more ho, HB1.out⟩
        have HW3 := hide (o2 HW.out ho)
        clear ho
        go_wp2_with fail
        go_roundw
        case rel => exact ⟨i + 1, by go_num, by omega, by omega, HS3, HW3⟩
        case measure => simp [intOf]; omega
      | true =>
        have HEC := hide (fun W => enc_yes hok W)
        have HOK := hide hok
        clear hok
        go_wp2_with fail
        refine (HEC.out _).mono ?_
        rintro x w3 ⟨rfl, ho⟩
        have HS3 := hide (HSr.out.more ho)
        have HW3 := hide (o2 HW.out ho)
        have HEB3 := hide (HEB.out.kept ho (fun h => h))
        have HEN := hide (sn_enters HS3.out HBr.out (by omega) HOK.out true)
        clear ho e0 e1 e2 HEB HEC
        obtain ⟨e0, e1, e2, _⟩ := HEB3.out
        go_wp2_with fail
        refine HEN.out.mono ?_
        rintro x w4 ⟨rfl, g4, cap4, zs4, N4, F4, lo4, hs4, hb4, ho4, hg4⟩
        have HS4 : Hid (∃ g cap zs N F lo A, Sn (fun _ => False) W0 w4 f g cap zs N F lo A ∧ Bd N F (i + 1)) := ⟨_, _, _, _, _, _, _, hs4, hb4⟩
        have HW4 : Hid (Only (fun _ => False) W0 w4) := HW3.out.trans ho4 (fun k hk z => by have := HFG.out k z; omega)
        clear hs4 hb4 ho4 hg4
        go_wp2_with fail
        go_roundw
        case rel => exact ⟨i + 1, by go_num, by omega, by omega, HS4, HW4⟩
        case measure => simp [intOf]; omega
    · have HEV := hide (HV.out.more HW.out)
      clear HV HL
      obtain ⟨d0, d1, d2, _⟩ := HEV.out
      by_cases hend : (i : Int) < (L.length : Int)
      · have hk2 : ¬ (i : Int) < 200 := by omega
        clear hlt
        cases hok : e.ok with
        | false =>
          have HEC := hide (fun W => enc_no hok W)
          clear hok
          go_wp2_with fail
          refine (HEC.out _).mono ?_
          rintro x w3 ⟨rfl, ho⟩
          have HO3 := hide (o2 (o2 HO.out HW.out) ho)
          clear ho
          go_wp2_with fail
          refine (HAW.out _).mono ?_
          rintro x w4 ⟨rfl, ho⟩
          have HO4 := hide (o2 HO3.out ho)
          clear ho
          go_wp2_with fail
          go_ret
          exact ⟨rfl, HO4.out⟩
        | true =>
          as_aux_lemma =>
            have HEC := hide (fun W => enc_yes hok W)
            have HOK := hide hok
            clear hok
            go_wp2_with fail
            refine (HEC.out _).mono ?_
            rintro x w3 ⟨rfl, ho⟩
            have HS3 := hide (HSr.out.more ho)
            have HW3 := hide (o2 HW.out ho)
            have HEV3 := hide (HEV.out.more ho)
            have HFI := hide (sn_finds HS3.out HBr.out (by omega) HOK.out)
            clear ho d0 d1 d2 HEV HEC HSr
            obtain ⟨d0, d1, d2, _⟩ := HEV3.out
            go_wp2_with fail
            refine HFI.out.mono ?_
            rintro x w4 ⟨j, rfl, hj, ho⟩
            have HJ := hide hj
            have HS4 := hide (HS3.out.more ho)
            have HW4 := hide (o2 HW3.out ho)
            have HEV4 := hide (HEV3.out.more ho)
            obtain ⟨z, hjl, hz, hlv, hnd, hrg⟩ := HS4.out.leave HBr.out (by omega) HOK.out hj.1 hj.2.1
            have HLV := hide hlv
            have HND := hide hnd
            have HRG := hide hrg
            have hnl := need_leaf (j := j) hj.2.1 HOK.out hj.2.2.2
            have hj0 : ¬ (j : Int) < 1 := by have := hj.1.1; omega
            have hj1 : (1 : Int) ≤ (j : Int) := by omega
            have fc := HS4.out.fm.cell
            have hlen := HS4.out.fz.len
            have hnum := HBr.out.num
            obtain ⟨n, hn⟩ : ∃ n, zs.length = n := ⟨_, rfl⟩
            rw [hn] at fc
            have hjn : j < n := by omega
            have hj2 : ¬ (n : Int) ≤ (j : Int) := by omega
            have hj3 : (j : Int) < (n : Int) := by omega
            have hn9 : n ≤ 9999 := by omega
            have HNN := hide hn
            clear ho hlv hnd hrg hz hjl hj hn hlen hnum d0 d1 d2 HS3 HW3 HEV3 HFI
            have c0 := HRG.out.cell 0 (.int .i64 z.p.lsn) rfl
            have c1 := HRG.out.cell 1 (.int .i64 z.p.kind) rfl
            have c2 := HRG.out.cell 2 (.int .i64 z.p.level) rfl
            have c3 := HRG.out.cell 3 (.int .i64 z.p.right) rfl
            have c4 := HRG.out.cell 4 (.string z.p.high) rfl
            have c5 := HRG.out.cell 5 (.slice z.ao z.p.items.length z.cp) rfl
            rw [Nat.add_zero] at c0
            unfold Pz.ar at HND HLV
            rcases hnl with ⟨hm, hne⟩ | ⟨hm, m, hne, hmv⟩
            · rw [hne] at HND
              rw [lvV_in hm] at HLV
              simp only [] at HND
              have HM := hide hm
              clear hm hne
              go_wp2_with fail
              refine (HND.out _ (Only.refl _ _)).mono ?_
              rintro x w5 ⟨rfl, ho⟩
              have HO5 := hide ho
              have HS5 := hide (HS4.out.more ho)
              have HW5 := hide (o2 HW4.out ho)
              have HEV5 := hide (HEV4.out.more ho)
              have HRG5 := hide (HRG.out.more ho)
              have fc5 := HS5.out.fm.cell
              rw [HNN.out] at fc5
              have HFB5 : Hid (f < w5.heap.size) := HS5.out.fm.flt
              clear ho fc c0 c1 c2 c3 c4 c5 HS4 HW4 HEV4 HRG HND
              go_upto_region 16 with fail
              go_cut [14, 15] (fun x y wx => ∃ b, x = .pointer (some ⟨b, 0, none⟩) ∧ y = .int .i64 0 ∧ Hid (Rz w5 wx b ⟨4, (j : Int), e.enc, none, 0, 0⟩))
              case first =>
                as_aux_lemma =>
                  -- {r16
                  refine wp_region_noPanic ?_
                  refine wp_region_held_drew (S := fun W => Only (fun _ => False) w5 W) (by kernel_rfl) (Only.drew _ _) (fun hHeld => ?_)
                  refine wpAnyH_take (i := 0) (oi := { dst := some 84, op := Op.move (Operand.tmp 5), type := 49, pos := "law.go:276", after := #[], guard := none }) (v := .pointer (some ⟨f, 0, none⟩)) rfl (by kernel_rfl) (by kernel_rfl) (by kernel_rfl) (fun _ _ _ h => h) (Or.inl ⟨by rfl, fun w' hSw => by clear hSw; go_simp⟩) (by assumption) ?_
                  simp only [Act.put, List.setIfInBounds_toArray, List.set_cons_zero, List.set_cons_succ]
                  refine wpAnyH_take (i := 4) (oi := { dst := some 88, op := Op.move (Operand.tmp 11), type := 3, pos := "law.go:276", after := #[], guard := none }) (v := .int .i64 (j : Int)) rfl (by kernel_rfl) (by kernel_rfl) (by kernel_rfl) (fun _ _ _ h => h) (Or.inl ⟨by rfl, fun w' hSw => by clear hSw; go_simp⟩) (by assumption) ?_
                  simp only [Act.put, List.setIfInBounds_toArray, List.set_cons_zero, List.set_cons_succ]
                  refine wpAnyH_take (i := 7) (oi := { dst := some 91, op := Op.move (Operand.tmp 11), type := 3, pos := "law.go:276", after := #[], guard := none }) (v := .int .i64 (j : Int)) rfl (by kernel_rfl) (by kernel_rfl) (by kernel_rfl) (fun _ _ _ h => h) (Or.inl ⟨by rfl, fun w' hSw => by clear hSw; go_simp⟩) (by assumption) ?_
                  simp only [Act.put, List.setIfInBounds_toArray, List.set_cons_zero, List.set_cons_succ]
                  refine wpAnyH_take (i := 8) (oi := { dst := some 92, op := Op.load 41 (Operand.tmp 3), type := 41, pos := "law.go:276", after := #[], guard := none }) (v := .agg #[.string e.key, .int .i64 e.page, .int .i64 e.slot]) rfl (by kernel_rfl) (by kernel_rfl) (by kernel_rfl) (fun _ _ _ h => h) (yieldsIf_load_ev (by rfl) _ rfl rfl (fun W hW => HEV5.out.more hW)) (by assumption) ?_
                  simp only [Act.put, List.setIfInBounds_toArray, List.set_cons_zero, List.set_cons_succ]
                  refine wpAnyH_take (i := 1) (oi := { dst := some 85, op := Op.nilCheck (Operand.tmp 84), type := 0, pos := "law.go:276", after := #[{ on := 0, ground := Ground.data }], guard := none }) (v := .pointer (some ⟨f, 0, none⟩)) rfl (by kernel_rfl) (by kernel_rfl) (by kernel_rfl) (fun _ _ _ h => h) (Or.inl ⟨by rfl, fun w' hSw => by clear hSw; go_simp⟩) (by assumption) ?_
                  simp only [Act.put, List.setIfInBounds_toArray, List.set_cons_zero, List.set_cons_succ]
                  refine wpAnyH_take (i := 2) (oi := { dst := some 86, op := Op.fieldAddr 53 (Operand.tmp 85) 0, type := 0, pos := "law.go:276", after := #[{ on := 1, ground := Ground.data }], guard := none }) (v := .pointer (some ⟨f, 0, none⟩)) rfl (by kernel_rfl) (by kernel_rfl) (by kernel_rfl) (fun _ _ _ h => h) (Or.inl ⟨by rfl, fun w' hSw => by clear hSw; go_simp⟩) (by assumption) ?_
                  simp only [Act.put, List.setIfInBounds_toArray, List.set_cons_zero, List.set_cons_succ]
                  refine wpAnyH_take (i := 3) (oi := { dst := some 87, op := Op.load 51 (Operand.tmp 86), type := 51, pos := "law.go:276", after := #[{ on := 2, ground := Ground.data }], guard := none }) (v := .slice (some ⟨g, 0, none⟩) n cap) rfl (by kernel_rfl) (by kernel_rfl) (by kernel_rfl) (fun _ _ _ h => h) (yieldsIf_load_cell (by rfl) 51 _ rfl _ rfl (fun W hW => (hW.cell (p := ⟨f, 0, none⟩) HFB5.out (fun h => h)).trans fc5) (fun W hc => ld_pages hc)) (by assumption) ?_
                  simp only [Act.put, List.setIfInBounds_toArray, List.set_cons_zero, List.set_cons_succ]
                  refine wpAnyH_take (i := 5) (oi := { dst := some 89, op := Op.indexAddr 51 (Operand.tmp 87) (Operand.tmp 88), type := 0, pos := "law.go:276", after := #[{ on := 3, ground := Ground.data }, { on := 4, ground := Ground.data }], guard := none }) (v := .pointer (some ⟨g, j * 6, none⟩)) rfl (by kernel_rfl) (by kernel_rfl) (by kernel_rfl) (fun _ _ _ h => h) (Or.inl ⟨by rfl, fun w' hSw => by clear hSw; go_simp⟩) (by assumption) ?_
                  simp only [Act.put, List.setIfInBounds_toArray, List.set_cons_zero, List.set_cons_succ]
                  refine wpAnyH_take (i := 6) (oi := { dst := some 90, op := Op.load 24 (Operand.tmp 89), type := 24, pos := "law.go:276", after := #[{ on := 5, ground := Ground.data }], guard := none }) (v := .agg #[.int .i64 z.p.lsn, .int .i64 z.p.kind, .int .i64 z.p.level, .int .i64 z.p.right, .string z.p.high, .slice z.ao z.p.items.length z.cp]) rfl (by kernel_rfl) (by kernel_rfl) (by kernel_rfl) (fun _ _ _ h => h) (yieldsIf_load_pz (by rfl) _ rfl rfl (fun W hW => HRG5.out.more hW)) (by assumption) ?_
                  simp only [Act.put, List.setIfInBounds_toArray, List.set_cons_zero, List.set_cons_succ]
                  refine wpAnyH_ready (rs := [9, 13]) (by kernel_rfl) (by simp) ?_
                  refine AllReadyH.cons (o := { dst := some 93, op := Op.call { callee := Callee.value (Operand.func 21), args := #[Operand.tmp 90, Operand.tmp 91, Operand.tmp 92], argTypes := #[24, 3, 41] }, type := 37, pos := "law.go:276", after := #[{ on := 6, ground := Ground.data }, { on := 7, ground := Ground.data }, { on := 8, ground := Ground.data }], guard := none }) rfl (fun K hK => ?_) (AllReadyH.cons (o := { dst := some 14, op := Op.alloc 36, type := 0, pos := "law.go:276", after := #[], guard := none }) rfl (fun K hK => ?_) (AllReadyH.nil))
                  · go_simp
                    refine (HLV.out _ (o2 HO5.out hHeld)).mono ?_
                    rintro x x1 ⟨rfl, hox⟩
                    have HX1 := hide (o2 hHeld hox)
                    clear hox
                    refine hK.out _ _ (HX1.out) (fun hHeld => ?_)
                    clear hK K
                    try simp only [Act.put, List.setIfInBounds_toArray, List.set_cons_zero, List.set_cons_succ]
                    refine wpAnyH_take (i := 10) (oi := { dst := some 83, op := Op.move (Operand.tmp 93), type := 37, pos := "law.go:276", after := #[{ on := 9, ground := Ground.data }], guard := none }) (v := .tuple #[.agg #[.int .i64 0, .int .i64 0, .int .i64 0, .int .u8 4, .int .i64 0, .int .i64 (j : Int), .int .i64 0, .int .i64 0, .int .i64 0, .int .i64 0, .string e.enc, .slice none 0 0, .slice none 0 0, .slice none 0 0, .slice none 0 0, .slice none 0 0], .int .i64 0]) rfl (by kernel_rfl) (by kernel_rfl) (by kernel_rfl) (fun _ _ _ h => h) (Or.inl ⟨by rfl, fun w' hSw => by clear hSw; go_simp⟩) (by assumption) ?_
                    simp only [Act.put, List.setIfInBounds_toArray, List.set_cons_zero, List.set_cons_succ]
                    refine wpAnyH_take (i := 11) (oi := { dst := some 94, op := Op.extract (Operand.tmp 83) 0, type := 36, pos := "law.go:276", after := #[{ on := 10, ground := Ground.data }], guard := none }) (v := .agg #[.int .i64 0, .int .i64 0, .int .i64 0, .int .u8 4, .int .i64 0, .int .i64 (j : Int), .int .i64 0, .int .i64 0, .int .i64 0, .int .i64 0, .string e.enc, .slice none 0 0, .slice none 0 0, .slice none 0 0, .slice none 0 0, .slice none 0 0]) rfl (by kernel_rfl) (by kernel_rfl) (by kernel_rfl) (fun _ _ _ h => h) (Or.inl ⟨by rfl, fun w' hSw => by clear hSw; go_simp⟩) (by assumption) ?_
                    simp only [Act.put, List.setIfInBounds_toArray, List.set_cons_zero, List.set_cons_succ]
                    refine wpAnyH_take (i := 12) (oi := { dst := some 95, op := Op.extract (Operand.tmp 83) 1, type := 28, pos := "law.go:276", after := #[{ on := 10, ground := Ground.data }, { on := 14, ground := Ground.gcOnly Departure.lateStores }], guard := none }) (v := .int .i64 0) rfl (by kernel_rfl) (by kernel_rfl) (by kernel_rfl) (fun _ _ _ h => h) (Or.inl ⟨by rfl, fun w' hSw => by clear hSw; go_simp⟩) (by assumption) ?_
                    simp only [Act.put, List.setIfInBounds_toArray, List.set_cons_zero, List.set_cons_succ]
                    refine wpAnyH_ready (rs := [13]) (by kernel_rfl) (by simp) ?_
                    refine AllReadyH.cons (o := { dst := some 14, op := Op.alloc 36, type := 0, pos := "law.go:276", after := #[], guard := none }) rfl (fun K hK => ?_) (AllReadyH.nil)
                    go_simp
                    have HRB := hide (Rg.new x1 Br.none.cells 36)
                    have HX2 := hide (o2 HX1.out (onlyA x1 (.cells Br.none.cells 36)))
                    refine hK.out _ _ (HX2.out) (fun hHeld => ?_)
                    clear hK K
                    try simp only [Act.put, List.setIfInBounds_toArray, List.set_cons_zero, List.set_cons_succ]
                    refine wpAnyH_ready (rs := [14]) (by kernel_rfl) (by simp) ?_
                    refine AllReadyH.cons (o := { dst := none, op := Op.store 36 (Operand.tmp 14) (Operand.tmp 94), type := 0, pos := "law.go:276", after := #[{ on := 13, ground := Ground.data }, { on := 11, ground := Ground.data }, { on := 9, ground := Ground.chain }, { on := 0, ground := Ground.phase }, { on := 1, ground := Ground.phase }, { on := 2, ground := Ground.phase }, { on := 3, ground := Ground.phase }, { on := 4, ground := Ground.phase }, { on := 5, ground := Ground.phase }, { on := 6, ground := Ground.phase }, { on := 7, ground := Ground.phase }, { on := 8, ground := Ground.phase }, { on := 9, ground := Ground.phase }, { on := 10, ground := Ground.phase }, { on := 11, ground := Ground.phase }, { on := 12, ground := Ground.textOnly Departure.lateStores }, { on := 13, ground := Ground.phase }], guard := none }) rfl (fun K hK => ?_) (AllReadyH.nil)
                    refine wp_store_mid 36 (.tmp 14) (.tmp 94) rfl (x1.heap.size) 0 (Br.cells ⟨4, (j : Int), e.enc, none, 0, 0⟩) rfl rfl (by exact HRB.out.there) Tryz.sizeRecB (by simp [Value.oneCell']) ?_
                    have HRZ := hide (Rz.of ⟨4, (j : Int), e.enc, none, 0, 0⟩ HRB.out HX2.out HX1.out.size)
                    refine hK.out _ _ (HRZ.out.only) (fun hHeld => ?_)
                    clear hK K
                    simp only [Act.put]
                    refine wpAnyH_take (i := 15) (oi := { dst := some 15, op := Op.assign (Operand.tmp 95), type := 28, pos := "law.go:276", after := #[{ on := 12, ground := Ground.data }, { on := 14, ground := Ground.chain }, { on := 0, ground := Ground.phase }, { on := 1, ground := Ground.phase }, { on := 2, ground := Ground.phase }, { on := 3, ground := Ground.phase }, { on := 4, ground := Ground.phase }, { on := 5, ground := Ground.phase }, { on := 6, ground := Ground.phase }, { on := 7, ground := Ground.phase }, { on := 8, ground := Ground.phase }, { on := 9, ground := Ground.phase }, { on := 10, ground := Ground.phase }, { on := 11, ground := Ground.phase }, { on := 12, ground := Ground.phase }, { on := 13, ground := Ground.phase }, { on := 14, ground := Ground.phase }], guard := none }) (v := .int .i64 0) rfl (by kernel_rfl) (by kernel_rfl) (by kernel_rfl) (fun _ _ _ h => h) (Or.inl ⟨by rfl, fun w' hSw => by clear hSw; go_simp⟩) (by assumption) ?_
                    simp only [Act.put, List.setIfInBounds_toArray, List.set_cons_zero, List.set_cons_succ]
                    refine wpAnyH_done (by kernel_rfl) ?_ _
                    refine NoPanic.normal ?_
                    go_wp2_with fail
                    go_meet
                    exact ⟨_, rfl, rfl, HRZ⟩
                  · go_simp
                    have HRA : Hid (Rg ((w5.alloc (.cells Br.none.cells 36)).drew) w5.heap.size 0 Br.none.cl) := (Rg.new w5 Br.none.cells 36).more (Only.drew _ _)
                    have HXA : Hid (Only (fun _ => False) w5 ((w5.alloc (.cells Br.none.cells 36)).drew)) := o2 (onlyA _ _) (Only.drew _ _)
                    refine hK.out _ _ (HXA.out) (fun hHeld => ?_)
                    clear hK K
                    try simp only [Act.put, List.setIfInBounds_toArray, List.set_cons_zero, List.set_cons_succ]
                    refine wpAnyH_ready (rs := [9]) (by kernel_rfl) (by simp) ?_
                    refine AllReadyH.cons (o := { dst := some 93, op := Op.call { callee := Callee.value (Operand.func 21), args := #[Operand.tmp 90, Operand.tmp 91, Operand.tmp 92], argTypes := #[24, 3, 41] }, type := 37, pos := "law.go:276", after := #[{ on := 6, ground := Ground.data }, { on := 7, ground := Ground.data }, { on := 8, ground := Ground.data }], guard := none }) rfl (fun K hK => ?_) (AllReadyH.nil)
                    go_simp
                    refine (HLV.out _ (o2 HO5.out hHeld)).mono ?_
                    rintro x x1 ⟨rfl, hox⟩
                    have HX1 := hide (o2 hHeld hox)
                    have HRB := hide (HRA.out.more hox)
                    have HX2 := hide HX1.out
                    clear hox
                    refine hK.out _ _ (HX1.out) (fun hHeld => ?_)
                    clear hK K
                    try simp only [Act.put, List.setIfInBounds_toArray, List.set_cons_zero, List.set_cons_succ]
                    refine wpAnyH_take (i := 10) (oi := { dst := some 83, op := Op.move (Operand.tmp 93), type := 37, pos := "law.go:276", after := #[{ on := 9, ground := Ground.data }], guard := none }) (v := .tuple #[.agg #[.int .i64 0, .int .i64 0, .int .i64 0, .int .u8 4, .int .i64 0, .int .i64 (j : Int), .int .i64 0, .int .i64 0, .int .i64 0, .int .i64 0, .string e.enc, .slice none 0 0, .slice none 0 0, .slice none 0 0, .slice none 0 0, .slice none 0 0], .int .i64 0]) rfl (by kernel_rfl) (by kernel_rfl) (by kernel_rfl) (fun _ _ _ h => h) (Or.inl ⟨by rfl, fun w' hSw => by clear hSw; go_simp⟩) (by assumption) ?_
                    simp only [Act.put, List.setIfInBounds_toArray, List.set_cons_zero, List.set_cons_succ]
                    refine wpAnyH_take (i := 11) (oi := { dst := some 94, op := Op.extract (Operand.tmp 83) 0, type := 36, pos := "law.go:276", after := #[{ on := 10, ground := Ground.data }], guard := none }) (v := .agg #[.int .i64 0, .int .i64 0, .int .i64 0, .int .u8 4, .int .i64 0, .int .i64 (j : Int), .int .i64 0, .int .i64 0, .int .i64 0, .int .i64 0, .string e.enc, .slice none 0 0, .slice none 0 0, .slice none 0 0, .slice none 0 0, .slice none 0 0]) rfl (by kernel_rfl) (by kernel_rfl) (by kernel_rfl) (fun _ _ _ h => h) (Or.inl ⟨by rfl, fun w' hSw => by clear hSw; go_simp⟩) (by assumption) ?_
                    simp only [Act.put, List.setIfInBounds_toArray, List.set_cons_zero, List.set_cons_succ]
                    refine wpAnyH_take (i := 12) (oi := { dst := some 95, op := Op.extract (Operand.tmp 83) 1, type := 28, pos := "law.go:276", after := #[{ on := 10, ground := Ground.data }, { on := 14, ground := Ground.gcOnly Departure.lateStores }], guard := none }) (v := .int .i64 0) rfl (by kernel_rfl) (by kernel_rfl) (by kernel_rfl) (fun _ _ _ h => h) (Or.inl ⟨by rfl, fun w' hSw => by clear hSw; go_simp⟩) (by assumption) ?_
                    simp only [Act.put, List.setIfInBounds_toArray, List.set_cons_zero, List.set_cons_succ]
                    refine wpAnyH_ready (rs := [14]) (by kernel_rfl) (by simp) ?_
                    refine AllReadyH.cons (o := { dst := none, op := Op.store 36 (Operand.tmp 14) (Operand.tmp 94), type := 0, pos := "law.go:276", after := #[{ on := 13, ground := Ground.data }, { on := 11, ground := Ground.data }, { on := 9, ground := Ground.chain }, { on := 0, ground := Ground.phase }, { on := 1, ground := Ground.phase }, { on := 2, ground := Ground.phase }, { on := 3, ground := Ground.phase }, { on := 4, ground := Ground.phase }, { on := 5, ground := Ground.phase }, { on := 6, ground := Ground.phase }, { on := 7, ground := Ground.phase }, { on := 8, ground := Ground.phase }, { on := 9, ground := Ground.phase }, { on := 10, ground := Ground.phase }, { on := 11, ground := Ground.phase }, { on := 12, ground := Ground.textOnly Departure.lateStores }, { on := 13, ground := Ground.phase }], guard := none }) rfl (fun K hK => ?_) (AllReadyH.nil)
                    refine wp_store_mid 36 (.tmp 14) (.tmp 94) rfl (w5.heap.size) 0 (Br.cells ⟨4, (j : Int), e.enc, none, 0, 0⟩) rfl rfl (by exact HRB.out.there) Tryz.sizeRecB (by simp [Value.oneCell']) ?_
                    have HRZ := hide (Rz.of ⟨4, (j : Int), e.enc, none, 0, 0⟩ HRB.out HX2.out (Nat.le_refl _))
                    refine hK.out _ _ (HRZ.out.only) (fun hHeld => ?_)
                    clear hK K
                    simp only [Act.put]
                    refine wpAnyH_take (i := 15) (oi := { dst := some 15, op := Op.assign (Operand.tmp 95), type := 28, pos := "law.go:276", after := #[{ on := 12, ground := Ground.data }, { on := 14, ground := Ground.chain }, { on := 0, ground := Ground.phase }, { on := 1, ground := Ground.phase }, { on := 2, ground := Ground.phase }, { on := 3, ground := Ground.phase }, { on := 4, ground := Ground.phase }, { on := 5, ground := Ground.phase }, { on := 6, ground := Ground.phase }, { on := 7, ground := Ground.phase }, { on := 8, ground := Ground.phase }, { on := 9, ground := Ground.phase }, { on := 10, ground := Ground.phase }, { on := 11, ground := Ground.phase }, { on := 12, ground := Ground.phase }, { on := 13, ground := Ground.phase }, { on := 14, ground := Ground.phase }], guard := none }) (v := .int .i64 0) rfl (by kernel_rfl) (by kernel_rfl) (by kernel_rfl) (fun _ _ _ h => h) (Or.inl ⟨by rfl, fun w' hSw => by clear hSw; go_simp⟩) (by assumption) ?_
                    simp only [Act.put, List.setIfInBounds_toArray, List.set_cons_zero, List.set_cons_succ]
                    refine wpAnyH_done (by kernel_rfl) ?_ _
                    refine NoPanic.normal ?_
                    go_wp2_with fail
                    go_meet
                    exact ⟨_, rfl, rfl, HRZ⟩
                  -- r16}
              case rest =>
                as_aux_lemma =>
                  obtain ⟨b, rfl, rfl, HRZ⟩ := hcut
                  have HS6 := hide (HS5.out.more HRZ.out.only)
                  have HW6 := hide (o2 HW5.out HRZ.out.only)
                  have HEV6 := hide (HEV5.out.more HRZ.out.only)
                  have HRC := hide HRZ.out.at_
                  have HDO := hide (HS6.out.out HBr.out (by omega) HOK.out HJ.out.1 HJ.out.2.1 HM.out)
                  clear fc5 HS5 HW5 HEV5 HRZ
                  go_wp2_with (refine wpList_loadg_br rfl (.tmp 14) rfl b rfl ⟨4, (j : Int), e.enc, none, 0, 0⟩ HRC.out ?_; go_frame)
                  refine HDO.out.mono ?_
                  rintro x w7 ⟨rfl, g7, cap7, zs7, F7, hs7, hb7, ho7, hg7⟩
                  have HS7 := hide hs7
                  have HB7 := hide hb7
                  have HW7 : Hid (Only (fun _ => False) W0 w7) := HW6.out.trans ho7 (fun k hk z => by have := HFG.out k z; omega)
                  have HEV7 := hide (HEV6.out.kept ho7 (fun q => by have h1 := HFG.out _ q; have h2 := HWB.out; omega))
                  have HEN := hide (sn_enters HS7.out HB7.out (by omega) HOK.out true)
                  clear hs7 hb7 ho7 hg7 HS6 HW6 HEV6 HDO HRC
                  obtain ⟨d0, d1, d2, _⟩ := HEV7.out
                  go_wp2_with fail
                  refine HEN.out.mono ?_
                  rintro x w8 ⟨rfl, g8, cap8, zs8, N8, F8, lo8, _, _, ho8, hg8⟩
                  have HW8 : Hid (Only (fun _ => False) W0 w8) := HW7.out.trans ho8 (fun k hk z => by
                    have h1 := HS7.out.f0
                    have h2 := HS7.out.g0
                    omega)
                  clear ho8 hg8
                  go_wp2_with fail
                  refine (HAW.out _).mono ?_
                  rintro x w9 ⟨rfl, ho⟩
                  have HO9 := hide (o2 (o2 HO.out HW8.out) ho)
                  clear ho
                  go_wp2_with fail
                  go_ret
                  exact ⟨rfl, HO9.out⟩
            · rw [hne] at HND
              rw [lvV_out hm] at HLV
              simp only [] at HND
              clear hm hne
              go_wp2_with fail
              refine (HND.out _ (Only.refl _ _)).mono ?_
              rintro x w5 ⟨rfl, ho⟩
              have HO5 := hide ho
              have HS5 := hide (HS4.out.more ho)
              have HW5 := hide (o2 HW4.out ho)
              have HEV5 := hide (HEV4.out.more ho)
              have HRG5 := hide (HRG.out.more ho)
              have fc5 := HS5.out.fm.cell
              rw [HNN.out] at fc5
              have HFB5 : Hid (f < w5.heap.size) := HS5.out.fm.flt
              clear ho fc c0 c1 c2 c3 c4 c5 HS4 HW4 HEV4 HRG HND
              go_upto_region 18 with fail
              go_cut [137] (fun x wx => x = .bool false ∧ wx = w5)
              case first =>
                as_aux_lemma =>
                  rcases hmv with rfl | ⟨rfl, hne1⟩ | ⟨rfl, he1⟩
                  all_goals go_wp2_with fail
                  all_goals go_meet
                  all_goals first | exact ⟨rfl, rfl⟩ | exact ⟨by rw [beq_false_of_ne hne1], rfl⟩
              case rest =>
                as_aux_lemma =>
                  obtain ⟨rfl, hwx⟩ := hcut
                  obtain rfl := hwx.symm
                  go_upto_region 20 with fail
                  go_cut [16, 17] (fun x y wx => ∃ b, x = .pointer (some ⟨b, 0, none⟩) ∧ y = .int .i64 150 ∧ Hid (Rz w5 wx b Br.none))
                  case first =>
                    as_aux_lemma =>
                      -- {r20
                      refine wp_region_noPanic ?_
                      refine wp_region_held_drew (S := fun W => Only (fun _ => False) w5 W) (by kernel_rfl) (Only.drew _ _) (fun hHeld => ?_)
                      refine wpAnyH_take (i := 0) (oi := { dst := some 139, op := Op.move (Operand.tmp 5), type := 49, pos := "law.go:282", after := #[], guard := none }) (v := .pointer (some ⟨f, 0, none⟩)) rfl (by kernel_rfl) (by kernel_rfl) (by kernel_rfl) (fun _ _ _ h => h) (Or.inl ⟨by rfl, fun w' hSw => by clear hSw; go_simp⟩) (by assumption) ?_
                      simp only [Act.put, List.setIfInBounds_toArray, List.set_cons_zero, List.set_cons_succ]
                      refine wpAnyH_take (i := 4) (oi := { dst := some 143, op := Op.move (Operand.tmp 11), type := 3, pos := "law.go:282", after := #[], guard := none }) (v := .int .i64 (j : Int)) rfl (by kernel_rfl) (by kernel_rfl) (by kernel_rfl) (fun _ _ _ h => h) (Or.inl ⟨by rfl, fun w' hSw => by clear hSw; go_simp⟩) (by assumption) ?_
                      simp only [Act.put, List.setIfInBounds_toArray, List.set_cons_zero, List.set_cons_succ]
                      refine wpAnyH_take (i := 7) (oi := { dst := some 146, op := Op.move (Operand.tmp 11), type := 3, pos := "law.go:282", after := #[], guard := none }) (v := .int .i64 (j : Int)) rfl (by kernel_rfl) (by kernel_rfl) (by kernel_rfl) (fun _ _ _ h => h) (Or.inl ⟨by rfl, fun w' hSw => by clear hSw; go_simp⟩) (by assumption) ?_
                      simp only [Act.put, List.setIfInBounds_toArray, List.set_cons_zero, List.set_cons_succ]
                      refine wpAnyH_take (i := 8) (oi := { dst := some 147, op := Op.load 41 (Operand.tmp 3), type := 41, pos := "law.go:282", after := #[], guard := none }) (v := .agg #[.string e.key, .int .i64 e.page, .int .i64 e.slot]) rfl (by kernel_rfl) (by kernel_rfl) (by kernel_rfl) (fun _ _ _ h => h) (yieldsIf_load_ev (by rfl) _ rfl rfl (fun W hW => HEV5.out.more hW)) (by assumption) ?_
                      simp only [Act.put, List.setIfInBounds_toArray, List.set_cons_zero, List.set_cons_succ]
                      refine wpAnyH_take (i := 1) (oi := { dst := some 140, op := Op.nilCheck (Operand.tmp 139), type := 0, pos := "law.go:282", after := #[{ on := 0, ground := Ground.data }], guard := none }) (v := .pointer (some ⟨f, 0, none⟩)) rfl (by kernel_rfl) (by kernel_rfl) (by kernel_rfl) (fun _ _ _ h => h) (Or.inl ⟨by rfl, fun w' hSw => by clear hSw; go_simp⟩) (by assumption) ?_
                      simp only [Act.put, List.setIfInBounds_toArray, List.set_cons_zero, List.set_cons_succ]
                      refine wpAnyH_take (i := 2) (oi := { dst := some 141, op := Op.fieldAddr 53 (Operand.tmp 140) 0, type := 0, pos := "law.go:282", after := #[{ on := 1, ground := Ground.data }], guard := none }) (v := .pointer (some ⟨f, 0, none⟩)) rfl (by kernel_rfl) (by kernel_rfl) (by kernel_rfl) (fun _ _ _ h => h) (Or.inl ⟨by rfl, fun w' hSw => by clear hSw; go_simp⟩) (by assumption) ?_
                      simp only [Act.put, List.setIfInBounds_toArray, List.set_cons_zero, List.set_cons_succ]
                      refine wpAnyH_take (i := 3) (oi := { dst := some 142, op := Op.load 51 (Operand.tmp 141), type := 51, pos := "law.go:282", after := #[{ on := 2, ground := Ground.data }], guard := none }) (v := .slice (some ⟨g, 0, none⟩) n cap) rfl (by kernel_rfl) (by kernel_rfl) (by kernel_rfl) (fun _ _ _ h => h) (yieldsIf_load_cell (by rfl) 51 _ rfl _ rfl (fun W hW => (hW.cell (p := ⟨f, 0, none⟩) HFB5.out (fun h => h)).trans fc5) (fun W hc => ld_pages hc)) (by assumption) ?_
                      simp only [Act.put, List.setIfInBounds_toArray, List.set_cons_zero, List.set_cons_succ]
                      refine wpAnyH_take (i := 5) (oi := { dst := some 144, op := Op.indexAddr 51 (Operand.tmp 142) (Operand.tmp 143), type := 0, pos := "law.go:282", after := #[{ on := 3, ground := Ground.data }, { on := 4, ground := Ground.data }], guard := none }) (v := .pointer (some ⟨g, j * 6, none⟩)) rfl (by kernel_rfl) (by kernel_rfl) (by kernel_rfl) (fun _ _ _ h => h) (Or.inl ⟨by rfl, fun w' hSw => by clear hSw; go_simp⟩) (by assumption) ?_
                      simp only [Act.put, List.setIfInBounds_toArray, List.set_cons_zero, List.set_cons_succ]
                      refine wpAnyH_take (i := 6) (oi := { dst := some 145, op := Op.load 24 (Operand.tmp 144), type := 24, pos := "law.go:282", after := #[{ on := 5, ground := Ground.data }], guard := none }) (v := .agg #[.int .i64 z.p.lsn, .int .i64 z.p.kind, .int .i64 z.p.level, .int .i64 z.p.right, .string z.p.high, .slice z.ao z.p.items.length z.cp]) rfl (by kernel_rfl) (by kernel_rfl) (by kernel_rfl) (fun _ _ _ h => h) (yieldsIf_load_pz (by rfl) _ rfl rfl (fun W hW => HRG5.out.more hW)) (by assumption) ?_
                      simp only [Act.put, List.setIfInBounds_toArray, List.set_cons_zero, List.set_cons_succ]
                      refine wpAnyH_ready (rs := [9, 13]) (by kernel_rfl) (by simp) ?_
                      refine AllReadyH.cons (o := { dst := some 148, op := Op.call { callee := Callee.value (Operand.func 21), args := #[Operand.tmp 145, Operand.tmp 146, Operand.tmp 147], argTypes := #[24, 3, 41] }, type := 37, pos := "law.go:282", after := #[{ on := 6, ground := Ground.data }, { on := 7, ground := Ground.data }, { on := 8, ground := Ground.data }], guard := none }) rfl (fun K hK => ?_) (AllReadyH.cons (o := { dst := some 16, op := Op.alloc 36, type := 0, pos := "law.go:282", after := #[], guard := none }) rfl (fun K hK => ?_) (AllReadyH.nil))
                      · go_simp
                        refine (HLV.out _ (o2 HO5.out hHeld)).mono ?_
                        rintro x x1 ⟨rfl, hox⟩
                        have HX1 := hide (o2 hHeld hox)
                        clear hox
                        refine hK.out _ _ (HX1.out) (fun hHeld => ?_)
                        clear hK K
                        try simp only [Act.put, List.setIfInBounds_toArray, List.set_cons_zero, List.set_cons_succ]
                        refine wpAnyH_take (i := 10) (oi := { dst := some 138, op := Op.move (Operand.tmp 148), type := 37, pos := "law.go:282", after := #[{ on := 9, ground := Ground.data }], guard := none }) (v := .tuple #[.agg #[.int .i64 0, .int .i64 0, .int .i64 0, .int .u8 0, .int .i64 0, .int .i64 0, .int .i64 0, .int .i64 0, .int .i64 0, .int .i64 0, .string ⟨#[]⟩, .slice none 0 0, .slice none 0 0, .slice none 0 0, .slice none 0 0, .slice none 0 0], .int .i64 150]) rfl (by kernel_rfl) (by kernel_rfl) (by kernel_rfl) (fun _ _ _ h => h) (Or.inl ⟨by rfl, fun w' hSw => by clear hSw; go_simp⟩) (by assumption) ?_
                        simp only [Act.put, List.setIfInBounds_toArray, List.set_cons_zero, List.set_cons_succ]
                        refine wpAnyH_take (i := 11) (oi := { dst := some 149, op := Op.extract (Operand.tmp 138) 0, type := 36, pos := "law.go:282", after := #[{ on := 10, ground := Ground.data }], guard := none }) (v := .agg #[.int .i64 0, .int .i64 0, .int .i64 0, .int .u8 0, .int .i64 0, .int .i64 0, .int .i64 0, .int .i64 0, .int .i64 0, .int .i64 0, .string ⟨#[]⟩, .slice none 0 0, .slice none 0 0, .slice none 0 0, .slice none 0 0, .slice none 0 0]) rfl (by kernel_rfl) (by kernel_rfl) (by kernel_rfl) (fun _ _ _ h => h) (Or.inl ⟨by rfl, fun w' hSw => by clear hSw; go_simp⟩) (by assumption) ?_
                        simp only [Act.put, List.setIfInBounds_toArray, List.set_cons_zero, List.set_cons_succ]
                        refine wpAnyH_take (i := 12) (oi := { dst := some 150, op := Op.extract (Operand.tmp 138) 1, type := 28, pos := "law.go:282", after := #[{ on := 10, ground := Ground.data }, { on := 14, ground := Ground.gcOnly Departure.lateStores }], guard := none }) (v := .int .i64 150) rfl (by kernel_rfl) (by kernel_rfl) (by kernel_rfl) (fun _ _ _ h => h) (Or.inl ⟨by rfl, fun w' hSw => by clear hSw; go_simp⟩) (by assumption) ?_
                        simp only [Act.put, List.setIfInBounds_toArray, List.set_cons_zero, List.set_cons_succ]
                        refine wpAnyH_ready (rs := [13]) (by kernel_rfl) (by simp) ?_
                        refine AllReadyH.cons (o := { dst := some 16, op := Op.alloc 36, type := 0, pos := "law.go:282", after := #[], guard := none }) rfl (fun K hK => ?_) (AllReadyH.nil)
                        go_simp
                        have HRB := hide (Rg.new x1 Br.none.cells 36)
                        have HX2 := hide (o2 HX1.out (onlyA x1 (.cells Br.none.cells 36)))
                        refine hK.out _ _ (HX2.out) (fun hHeld => ?_)
                        clear hK K
                        try simp only [Act.put, List.setIfInBounds_toArray, List.set_cons_zero, List.set_cons_succ]
                        refine wpAnyH_ready (rs := [14]) (by kernel_rfl) (by simp) ?_
                        refine AllReadyH.cons (o := { dst := none, op := Op.store 36 (Operand.tmp 16) (Operand.tmp 149), type := 0, pos := "law.go:282", after := #[{ on := 13, ground := Ground.data }, { on := 11, ground := Ground.data }, { on := 9, ground := Ground.chain }, { on := 0, ground := Ground.phase }, { on := 1, ground := Ground.phase }, { on := 2, ground := Ground.phase }, { on := 3, ground := Ground.phase }, { on := 4, ground := Ground.phase }, { on := 5, ground := Ground.phase }, { on := 6, ground := Ground.phase }, { on := 7, ground := Ground.phase }, { on := 8, ground := Ground.phase }, { on := 9, ground := Ground.phase }, { on := 10, ground := Ground.phase }, { on := 11, ground := Ground.phase }, { on := 12, ground := Ground.textOnly Departure.lateStores }, { on := 13, ground := Ground.phase }], guard := none }) rfl (fun K hK => ?_) (AllReadyH.nil)
                        refine wp_store_mid 36 (.tmp 16) (.tmp 149) rfl (x1.heap.size) 0 (Br.cells Br.none) rfl rfl (by exact HRB.out.there) Tryz.sizeRecB (by simp [Value.oneCell']) ?_
                        have HRZ := hide (Rz.of Br.none HRB.out HX2.out HX1.out.size)
                        refine hK.out _ _ (HRZ.out.only) (fun hHeld => ?_)
                        clear hK K
                        simp only [Act.put]
                        refine wpAnyH_take (i := 15) (oi := { dst := some 17, op := Op.assign (Operand.tmp 150), type := 28, pos := "law.go:282", after := #[{ on := 12, ground := Ground.data }, { on := 14, ground := Ground.chain }, { on := 0, ground := Ground.phase }, { on := 1, ground := Ground.phase }, { on := 2, ground := Ground.phase }, { on := 3, ground := Ground.phase }, { on := 4, ground := Ground.phase }, { on := 5, ground := Ground.phase }, { on := 6, ground := Ground.phase }, { on := 7, ground := Ground.phase }, { on := 8, ground := Ground.phase }, { on := 9, ground := Ground.phase }, { on := 10, ground := Ground.phase }, { on := 11, ground := Ground.phase }, { on := 12, ground := Ground.phase }, { on := 13, ground := Ground.phase }, { on := 14, ground := Ground.phase }], guard := none }) (v := .int .i64 150) rfl (by kernel_rfl) (by kernel_rfl) (by kernel_rfl) (fun _ _ _ h => h) (Or.inl ⟨by rfl, fun w' hSw => by clear hSw; go_simp⟩) (by assumption) ?_
                        simp only [Act.put, List.setIfInBounds_toArray, List.set_cons_zero, List.set_cons_succ]
                        refine wpAnyH_done (by kernel_rfl) ?_ _
                        refine NoPanic.normal ?_
                        go_wp2_with fail
                        go_meet
                        exact ⟨_, rfl, rfl, HRZ⟩
                      · go_simp
                        have HRA : Hid (Rg ((w5.alloc (.cells Br.none.cells 36)).drew) w5.heap.size 0 Br.none.cl) := (Rg.new w5 Br.none.cells 36).more (Only.drew _ _)
                        have HXA : Hid (Only (fun _ => False) w5 ((w5.alloc (.cells Br.none.cells 36)).drew)) := o2 (onlyA _ _) (Only.drew _ _)
                        refine hK.out _ _ (HXA.out) (fun hHeld => ?_)
                        clear hK K
                        try simp only [Act.put, List.setIfInBounds_toArray, List.set_cons_zero, List.set_cons_succ]
                        refine wpAnyH_ready (rs := [9]) (by kernel_rfl) (by simp) ?_
                        refine AllReadyH.cons (o := { dst := some 148, op := Op.call { callee := Callee.value (Operand.func 21), args := #[Operand.tmp 145, Operand.tmp 146, Operand.tmp 147], argTypes := #[24, 3, 41] }, type := 37, pos := "law.go:282", after := #[{ on := 6, ground := Ground.data }, { on := 7, ground := Ground.data }, { on := 8, ground := Ground.data }], guard := none }) rfl (fun K hK => ?_) (AllReadyH.nil)
                        go_simp
                        refine (HLV.out _ (o2 HO5.out hHeld)).mono ?_
                        rintro x x1 ⟨rfl, hox⟩
                        have HX1 := hide (o2 hHeld hox)
                        have HRB := hide (HRA.out.more hox)
                        have HX2 := hide HX1.out
                        clear hox
                        refine hK.out _ _ (HX1.out) (fun hHeld => ?_)
                        clear hK K
                        try simp only [Act.put, List.setIfInBounds_toArray, List.set_cons_zero, List.set_cons_succ]
                        refine wpAnyH_take (i := 10) (oi := { dst := some 138, op := Op.move (Operand.tmp 148), type := 37, pos := "law.go:282", after := #[{ on := 9, ground := Ground.data }], guard := none }) (v := .tuple #[.agg #[.int .i64 0, .int .i64 0, .int .i64 0, .int .u8 0, .int .i64 0, .int .i64 0, .int .i64 0, .int .i64 0, .int .i64 0, .int .i64 0, .string ⟨#[]⟩, .slice none 0 0, .slice none 0 0, .slice none 0 0, .slice none 0 0, .slice none 0 0], .int .i64 150]) rfl (by kernel_rfl) (by kernel_rfl) (by kernel_rfl) (fun _ _ _ h => h) (Or.inl ⟨by rfl, fun w' hSw => by clear hSw; go_simp⟩) (by assumption) ?_
                        simp only [Act.put, List.setIfInBounds_toArray, List.set_cons_zero, List.set_cons_succ]
                        refine wpAnyH_take (i := 11) (oi := { dst := some 149, op := Op.extract (Operand.tmp 138) 0, type := 36, pos := "law.go:282", after := #[{ on := 10, ground := Ground.data }], guard := none }) (v := .agg #[.int .i64 0, .int .i64 0, .int .i64 0, .int .u8 0, .int .i64 0, .int .i64 0, .int .i64 0, .int .i64 0, .int .i64 0, .int .i64 0, .string ⟨#[]⟩, .slice none 0 0, .slice none 0 0, .slice none 0 0, .slice none 0 0, .slice none 0 0]) rfl (by kernel_rfl) (by kernel_rfl) (by kernel_rfl) (fun _ _ _ h => h) (Or.inl ⟨by rfl, fun w' hSw => by clear hSw; go_simp⟩) (by assumption) ?_
                        simp only [Act.put, List.setIfInBounds_toArray, List.set_cons_zero, List.set_cons_succ]
                        refine wpAnyH_take (i := 12) (oi := { dst := some 150, op := Op.extract (Operand.tmp 138) 1, type := 28, pos := "law.go:282", after := #[{ on := 10, ground := Ground.data }, { on := 14, ground := Ground.gcOnly Departure.lateStores }], guard := none }) (v := .int .i64 150) rfl (by kernel_rfl) (by kernel_rfl) (by kernel_rfl) (fun _ _ _ h => h) (Or.inl ⟨by rfl, fun w' hSw => by clear hSw; go_simp⟩) (by assumption) ?_
                        simp only [Act.put, List.setIfInBounds_toArray, List.set_cons_zero, List.set_cons_succ]
                        refine wpAnyH_ready (rs := [14]) (by kernel_rfl) (by simp) ?_
                        refine AllReadyH.cons (o := { dst := none, op := Op.store 36 (Operand.tmp 16) (Operand.tmp 149), type := 0, pos := "law.go:282", after := #[{ on := 13, ground := Ground.data }, { on := 11, ground := Ground.data }, { on := 9, ground := Ground.chain }, { on := 0, ground := Ground.phase }, { on := 1, ground := Ground.phase }, { on := 2, ground := Ground.phase }, { on := 3, ground := Ground.phase }, { on := 4, ground := Ground.phase }, { on := 5, ground := Ground.phase }, { on := 6, ground := Ground.phase }, { on := 7, ground := Ground.phase }, { on := 8, ground := Ground.phase }, { on := 9, ground := Ground.phase }, { on := 10, ground := Ground.phase }, { on := 11, ground := Ground.phase }, { on := 12, ground := Ground.textOnly Departure.lateStores }, { on := 13, ground := Ground.phase }], guard := none }) rfl (fun K hK => ?_) (AllReadyH.nil)
                        refine wp_store_mid 36 (.tmp 16) (.tmp 149) rfl (w5.heap.size) 0 (Br.cells Br.none) rfl rfl (by exact HRB.out.there) Tryz.sizeRecB (by simp [Value.oneCell']) ?_
                        have HRZ := hide (Rz.of Br.none HRB.out HX2.out (Nat.le_refl _))
                        refine hK.out _ _ (HRZ.out.only) (fun hHeld => ?_)
                        clear hK K
                        simp only [Act.put]
                        refine wpAnyH_take (i := 15) (oi := { dst := some 17, op := Op.assign (Operand.tmp 150), type := 28, pos := "law.go:282", after := #[{ on := 12, ground := Ground.data }, { on := 14, ground := Ground.chain }, { on := 0, ground := Ground.phase }, { on := 1, ground := Ground.phase }, { on := 2, ground := Ground.phase }, { on := 3, ground := Ground.phase }, { on := 4, ground := Ground.phase }, { on := 5, ground := Ground.phase }, { on := 6, ground := Ground.phase }, { on := 7, ground := Ground.phase }, { on := 8, ground := Ground.phase }, { on := 9, ground := Ground.phase }, { on := 10, ground := Ground.phase }, { on := 11, ground := Ground.phase }, { on := 12, ground := Ground.phase }, { on := 13, ground := Ground.phase }, { on := 14, ground := Ground.phase }], guard := none }) (v := .int .i64 150) rfl (by kernel_rfl) (by kernel_rfl) (by kernel_rfl) (fun _ _ _ h => h) (Or.inl ⟨by rfl, fun w' hSw => by clear hSw; go_simp⟩) (by assumption) ?_
                        simp only [Act.put, List.setIfInBounds_toArray, List.set_cons_zero, List.set_cons_succ]
                        refine wpAnyH_done (by kernel_rfl) ?_ _
                        refine NoPanic.normal ?_
                        go_wp2_with fail
                        go_meet
                        exact ⟨_, rfl, rfl, HRZ⟩
                      -- r20}
                  case rest =>
                    as_aux_lemma =>
                      obtain ⟨b, rfl, rfl, HRZ⟩ := hcut
                      have HS6 := hide (HS5.out.more HRZ.out.only)
                      have HW6 := hide (o2 HW5.out HRZ.out.only)
                      have HEV6 := hide (HEV5.out.more HRZ.out.only)
                      have HEN := hide (sn_enters HS6.out HBr.out (by omega) HOK.out true)
                      clear fc5 HS5 HW5 HEV5 HRZ
                      obtain ⟨d0, d1, d2, _⟩ := HEV6.out
                      go_wp2_with fail
                      refine HEN.out.mono ?_
                      rintro x w7 ⟨rfl, g7, cap7, zs7, N7, F7, lo7, hs7, hb7, ho7, hg7⟩
                      have HS7 := hide hs7
                      have HB7 := hide hb7
                      have HW7 : Hid (Only (fun _ => False) W0 w7) := HW6.out.trans ho7 (fun k hk z => by have := HFG.out k z; omega)
                      have HEV7 := hide (HEV6.out.kept ho7 (fun q => by have h1 := HFG.out _ q; have h2 := HWB.out; omega))
                      have HFI := hide (sn_finds HS7.out HB7.out (by omega) HOK.out)
                      clear hs7 hb7 ho7 hg7 HS6 HW6 HEV6 HEN d0 d1 d2
                      obtain ⟨d0, d1, d2, _⟩ := HEV7.out
                      go_wp2_with fail
                      refine HFI.out.mono ?_
                      rintro x w8 ⟨j8, rfl, hj, ho⟩
                      have HS8 := hide (HS7.out.more ho)
                      have HW8 := hide (o2 HW7.out ho)
                      have HEV8 := hide (HEV7.out.more ho)
                      have hin : e ∈ (F7 j8).es := (HS8.out.fs.cont j8 hj.1 hj.2.1 e).2 ⟨.inr rfl, hj.2.2.1, hj.2.2.2⟩
                      obtain ⟨z, hjl, hz, hlv, hnd, hrg⟩ := HS8.out.leave HB7.out (by omega) HOK.out hj.1 hj.2.1
                      rw [lvV_in hin] at hlv
                      have HLV8 := hide hlv
                      have HRG8 := hide hrg
                      unfold Pz.ar at HLV8
                      have hk0 : ¬ (j8 : Int) < 1 := by have := hj.1.1; omega
                      have hk1 : (1 : Int) ≤ (j8 : Int) := by omega
                      have fc8 := HS8.out.fm.cell
                      have hlen := HS8.out.fz.len
                      have hnum := HB7.out.num
                      obtain ⟨n8, hn⟩ : ∃ n, zs7.length = n := ⟨_, rfl⟩
                      rw [hn] at fc8
                      have hjn8 : j8 < n8 := by omega
                      have hk2 : ¬ (n8 : Int) ≤ (j8 : Int) := by omega
                      have hk3 : (j8 : Int) < (n8 : Int) := by omega
                      have hn98 : n8 ≤ 9999 := by omega
                      have HFB8 : Hid (f < w8.heap.size) := HS8.out.fm.flt
                      clear ho hlv hnd hrg hz hjl hj hn hlen hnum hin d0 d1 d2 HS7 HW7 HEV7 HFI
                      go_upto_region 26 with fail
                      go_cut [18, 19] (fun x y wx => ∃ b, x = .pointer (some ⟨b, 0, none⟩) ∧ y = .int .i64 0 ∧ Hid (Rz w8 wx b ⟨4, (j8 : Int), e.enc, none, 0, 0⟩))
                      case first =>
                        as_aux_lemma =>
                          -- {r26
                          refine wp_region_noPanic ?_
                          refine wp_region_held_drew (S := fun W => Only (fun _ => False) w8 W) (by kernel_rfl) (Only.drew _ _) (fun hHeld => ?_)
                          refine wpAnyH_take (i := 0) (oi := { dst := some 166, op := Op.move (Operand.tmp 5), type := 49, pos := "law.go:290", after := #[], guard := none }) (v := .pointer (some ⟨f, 0, none⟩)) rfl (by kernel_rfl) (by kernel_rfl) (by kernel_rfl) (fun _ _ _ h => h) (Or.inl ⟨by rfl, fun w' hSw => by clear hSw; go_simp⟩) (by assumption) ?_
                          simp only [Act.put, List.setIfInBounds_toArray, List.set_cons_zero, List.set_cons_succ]
                          refine wpAnyH_take (i := 4) (oi := { dst := some 170, op := Op.move (Operand.tmp 11), type := 3, pos := "law.go:290", after := #[], guard := none }) (v := .int .i64 (j8 : Int)) rfl (by kernel_rfl) (by kernel_rfl) (by kernel_rfl) (fun _ _ _ h => h) (Or.inl ⟨by rfl, fun w' hSw => by clear hSw; go_simp⟩) (by assumption) ?_
                          simp only [Act.put, List.setIfInBounds_toArray, List.set_cons_zero, List.set_cons_succ]
                          refine wpAnyH_take (i := 7) (oi := { dst := some 173, op := Op.move (Operand.tmp 11), type := 3, pos := "law.go:290", after := #[], guard := none }) (v := .int .i64 (j8 : Int)) rfl (by kernel_rfl) (by kernel_rfl) (by kernel_rfl) (fun _ _ _ h => h) (Or.inl ⟨by rfl, fun w' hSw => by clear hSw; go_simp⟩) (by assumption) ?_
                          simp only [Act.put, List.setIfInBounds_toArray, List.set_cons_zero, List.set_cons_succ]
                          refine wpAnyH_take (i := 8) (oi := { dst := some 174, op := Op.load 41 (Operand.tmp 3), type := 41, pos := "law.go:290", after := #[], guard := none }) (v := .agg #[.string e.key, .int .i64 e.page, .int .i64 e.slot]) rfl (by kernel_rfl) (by kernel_rfl) (by kernel_rfl) (fun _ _ _ h => h) (yieldsIf_load_ev (by rfl) _ rfl rfl (fun W hW => HEV8.out.more hW)) (by assumption) ?_
                          simp only [Act.put, List.setIfInBounds_toArray, List.set_cons_zero, List.set_cons_succ]
                          refine wpAnyH_take (i := 1) (oi := { dst := some 167, op := Op.nilCheck (Operand.tmp 166), type := 0, pos := "law.go:290", after := #[{ on := 0, ground := Ground.data }], guard := none }) (v := .pointer (some ⟨f, 0, none⟩)) rfl (by kernel_rfl) (by kernel_rfl) (by kernel_rfl) (fun _ _ _ h => h) (Or.inl ⟨by rfl, fun w' hSw => by clear hSw; go_simp⟩) (by assumption) ?_
                          simp only [Act.put, List.setIfInBounds_toArray, List.set_cons_zero, List.set_cons_succ]
                          refine wpAnyH_take (i := 2) (oi := { dst := some 168, op := Op.fieldAddr 53 (Operand.tmp 167) 0, type := 0, pos := "law.go:290", after := #[{ on := 1, ground := Ground.data }], guard := none }) (v := .pointer (some ⟨f, 0, none⟩)) rfl (by kernel_rfl) (by kernel_rfl) (by kernel_rfl) (fun _ _ _ h => h) (Or.inl ⟨by rfl, fun w' hSw => by clear hSw; go_simp⟩) (by assumption) ?_
                          simp only [Act.put, List.setIfInBounds_toArray, List.set_cons_zero, List.set_cons_succ]
                          refine wpAnyH_take (i := 3) (oi := { dst := some 169, op := Op.load 51 (Operand.tmp 168), type := 51, pos := "law.go:290", after := #[{ on := 2, ground := Ground.data }], guard := none }) (v := .slice (some ⟨g7, 0, none⟩) n8 cap7) rfl (by kernel_rfl) (by kernel_rfl) (by kernel_rfl) (fun _ _ _ h => h) (yieldsIf_load_cell (by rfl) 51 _ rfl _ rfl (fun W hW => (hW.cell (p := ⟨f, 0, none⟩) HFB8.out (fun h => h)).trans fc8) (fun W hc => ld_pages hc)) (by assumption) ?_
                          simp only [Act.put, List.setIfInBounds_toArray, List.set_cons_zero, List.set_cons_succ]
                          refine wpAnyH_take (i := 5) (oi := { dst := some 171, op := Op.indexAddr 51 (Operand.tmp 169) (Operand.tmp 170), type := 0, pos := "law.go:290", after := #[{ on := 3, ground := Ground.data }, { on := 4, ground := Ground.data }], guard := none }) (v := .pointer (some ⟨g7, j8 * 6, none⟩)) rfl (by kernel_rfl) (by kernel_rfl) (by kernel_rfl) (fun _ _ _ h => h) (Or.inl ⟨by rfl, fun w' hSw => by clear hSw; go_simp⟩) (by assumption) ?_
                          simp only [Act.put, List.setIfInBounds_toArray, List.set_cons_zero, List.set_cons_succ]
                          refine wpAnyH_take (i := 6) (oi := { dst := some 172, op := Op.load 24 (Operand.tmp 171), type := 24, pos := "law.go:290", after := #[{ on := 5, ground := Ground.data }], guard := none }) (v := .agg #[.int .i64 z.p.lsn, .int .i64 z.p.kind, .int .i64 z.p.level, .int .i64 z.p.right, .string z.p.high, .slice z.ao z.p.items.length z.cp]) rfl (by kernel_rfl) (by kernel_rfl) (by kernel_rfl) (fun _ _ _ h => h) (yieldsIf_load_pz (by rfl) _ rfl rfl (fun W hW => HRG8.out.more hW)) (by assumption) ?_
                          simp only [Act.put, List.setIfInBounds_toArray, List.set_cons_zero, List.set_cons_succ]
                          refine wpAnyH_ready (rs := [9, 13]) (by kernel_rfl) (by simp) ?_
                          refine AllReadyH.cons (o := { dst := some 175, op := Op.call { callee := Callee.value (Operand.func 21), args := #[Operand.tmp 172, Operand.tmp 173, Operand.tmp 174], argTypes := #[24, 3, 41] }, type := 37, pos := "law.go:290", after := #[{ on := 6, ground := Ground.data }, { on := 7, ground := Ground.data }, { on := 8, ground := Ground.data }], guard := none }) rfl (fun K hK => ?_) (AllReadyH.cons (o := { dst := some 18, op := Op.alloc 36, type := 0, pos := "law.go:290", after := #[], guard := none }) rfl (fun K hK => ?_) (AllReadyH.nil))
                          · go_simp
                            refine (HLV8.out _ (hHeld)).mono ?_
                            rintro x x1 ⟨rfl, hox⟩
                            have HX1 := hide (o2 hHeld hox)
                            clear hox
                            refine hK.out _ _ (HX1.out) (fun hHeld => ?_)
                            clear hK K
                            try simp only [Act.put, List.setIfInBounds_toArray, List.set_cons_zero, List.set_cons_succ]
                            refine wpAnyH_take (i := 10) (oi := { dst := some 165, op := Op.move (Operand.tmp 175), type := 37, pos := "law.go:290", after := #[{ on := 9, ground := Ground.data }], guard := none }) (v := .tuple #[.agg #[.int .i64 0, .int .i64 0, .int .i64 0, .int .u8 4, .int .i64 0, .int .i64 (j8 : Int), .int .i64 0, .int .i64 0, .int .i64 0, .int .i64 0, .string e.enc, .slice none 0 0, .slice none 0 0, .slice none 0 0, .slice none 0 0, .slice none 0 0], .int .i64 0]) rfl (by kernel_rfl) (by kernel_rfl) (by kernel_rfl) (fun _ _ _ h => h) (Or.inl ⟨by rfl, fun w' hSw => by clear hSw; go_simp⟩) (by assumption) ?_
                            simp only [Act.put, List.setIfInBounds_toArray, List.set_cons_zero, List.set_cons_succ]
                            refine wpAnyH_take (i := 11) (oi := { dst := some 176, op := Op.extract (Operand.tmp 165) 0, type := 36, pos := "law.go:290", after := #[{ on := 10, ground := Ground.data }], guard := none }) (v := .agg #[.int .i64 0, .int .i64 0, .int .i64 0, .int .u8 4, .int .i64 0, .int .i64 (j8 : Int), .int .i64 0, .int .i64 0, .int .i64 0, .int .i64 0, .string e.enc, .slice none 0 0, .slice none 0 0, .slice none 0 0, .slice none 0 0, .slice none 0 0]) rfl (by kernel_rfl) (by kernel_rfl) (by kernel_rfl) (fun _ _ _ h => h) (Or.inl ⟨by rfl, fun w' hSw => by clear hSw; go_simp⟩) (by assumption) ?_
                            simp only [Act.put, List.setIfInBounds_toArray, List.set_cons_zero, List.set_cons_succ]
                            refine wpAnyH_take (i := 12) (oi := { dst := some 177, op := Op.extract (Operand.tmp 165) 1, type := 28, pos := "law.go:290", after := #[{ on := 10, ground := Ground.data }, { on := 14, ground := Ground.gcOnly Departure.lateStores }], guard := none }) (v := .int .i64 0) rfl (by kernel_rfl) (by kernel_rfl) (by kernel_rfl) (fun _ _ _ h => h) (Or.inl ⟨by rfl, fun w' hSw => by clear hSw; go_simp⟩) (by assumption) ?_
                            simp only [Act.put, List.setIfInBounds_toArray, List.set_cons_zero, List.set_cons_succ]
                            refine wpAnyH_ready (rs := [13]) (by kernel_rfl) (by simp) ?_
                            refine AllReadyH.cons (o := { dst := some 18, op := Op.alloc 36, type := 0, pos := "law.go:290", after := #[], guard := none }) rfl (fun K hK => ?_) (AllReadyH.nil)
                            go_simp
                            have HRB := hide (Rg.new x1 Br.none.cells 36)
                            have HX2 := hide (o2 HX1.out (onlyA x1 (.cells Br.none.cells 36)))
                            refine hK.out _ _ (HX2.out) (fun hHeld => ?_)
                            clear hK K
                            try simp only [Act.put, List.setIfInBounds_toArray, List.set_cons_zero, List.set_cons_succ]
                            refine wpAnyH_ready (rs := [14]) (by kernel_rfl) (by simp) ?_
                            refine AllReadyH.cons (o := { dst := none, op := Op.store 36 (Operand.tmp 18) (Operand.tmp 176), type := 0, pos := "law.go:290", after := #[{ on := 13, ground := Ground.data }, { on := 11, ground := Ground.data }, { on := 9, ground := Ground.chain }, { on := 0, ground := Ground.phase }, { on := 1, ground := Ground.phase }, { on := 2, ground := Ground.phase }, { on := 3, ground := Ground.phase }, { on := 4, ground := Ground.phase }, { on := 5, ground := Ground.phase }, { on := 6, ground := Ground.phase }, { on := 7, ground := Ground.phase }, { on := 8, ground := Ground.phase }, { on := 9, ground := Ground.phase }, { on := 10, ground := Ground.phase }, { on := 11, ground := Ground.phase }, { on := 12, ground := Ground.textOnly Departure.lateStores }, { on := 13, ground := Ground.phase }], guard := none }) rfl (fun K hK => ?_) (AllReadyH.nil)
                            refine wp_store_mid 36 (.tmp 18) (.tmp 176) rfl (x1.heap.size) 0 (Br.cells ⟨4, (j8 : Int), e.enc, none, 0, 0⟩) rfl rfl (by exact HRB.out.there) Tryz.sizeRecB (by simp [Value.oneCell']) ?_
                            have HRZ := hide (Rz.of ⟨4, (j8 : Int), e.enc, none, 0, 0⟩ HRB.out HX2.out HX1.out.size)
                            refine hK.out _ _ (HRZ.out.only) (fun hHeld => ?_)
                            clear hK K
                            simp only [Act.put]
                            refine wpAnyH_take (i := 15) (oi := { dst := some 19, op := Op.assign (Operand.tmp 177), type := 28, pos := "law.go:290", after := #[{ on := 12, ground := Ground.data }, { on := 14, ground := Ground.chain }, { on := 0, ground := Ground.phase }, { on := 1, ground := Ground.phase }, { on := 2, ground := Ground.phase }, { on := 3, ground := Ground.phase }, { on := 4, ground := Ground.phase }, { on := 5, ground := Ground.phase }, { on := 6, ground := Ground.phase }, { on := 7, ground := Ground.phase }, { on := 8, ground := Ground.phase }, { on := 9, ground := Ground.phase }, { on := 10, ground := Ground.phase }, { on := 11, ground := Ground.phase }, { on := 12, ground := Ground.phase }, { on := 13, ground := Ground.phase }, { on := 14, ground := Ground.phase }], guard := none }) (v := .int .i64 0) rfl (by kernel_rfl) (by kernel_rfl) (by kernel_rfl) (fun _ _ _ h => h) (Or.inl ⟨by rfl, fun w' hSw => by clear hSw; go_simp⟩) (by assumption) ?_
                            simp only [Act.put, List.setIfInBounds_toArray, List.set_cons_zero, List.set_cons_succ]
                            refine wpAnyH_done (by kernel_rfl) ?_ _
                            refine NoPanic.normal ?_
                            go_wp2_with fail
                            go_meet
                            exact ⟨_, rfl, rfl, HRZ⟩
                          · go_simp
                            have HRA : Hid (Rg ((w8.alloc (.cells Br.none.cells 36)).drew) w8.heap.size 0 Br.none.cl) := (Rg.new w8 Br.none.cells 36).more (Only.drew _ _)
                            have HXA : Hid (Only (fun _ => False) w8 ((w8.alloc (.cells Br.none.cells 36)).drew)) := o2 (onlyA _ _) (Only.drew _ _)
                            refine hK.out _ _ (HXA.out) (fun hHeld => ?_)
                            clear hK K
                            try simp only [Act.put, List.setIfInBounds_toArray, List.set_cons_zero, List.set_cons_succ]
                            refine wpAnyH_ready (rs := [9]) (by kernel_rfl) (by simp) ?_
                            refine AllReadyH.cons (o := { dst := some 175, op := Op.call { callee := Callee.value (Operand.func 21), args := #[Operand.tmp 172, Operand.tmp 173, Operand.tmp 174], argTypes := #[24, 3, 41] }, type := 37, pos := "law.go:290", after := #[{ on := 6, ground := Ground.data }, { on := 7, ground := Ground.data }, { on := 8, ground := Ground.data }], guard := none }) rfl (fun K hK => ?_) (AllReadyH.nil)
                            go_simp
                            refine (HLV8.out _ (hHeld)).mono ?_
                            rintro x x1 ⟨rfl, hox⟩
                            have HX1 := hide (o2 hHeld hox)
                            have HRB := hide (HRA.out.more hox)
                            have HX2 := hide HX1.out
                            clear hox
                            refine hK.out _ _ (HX1.out) (fun hHeld => ?_)
                            clear hK K
                            try simp only [Act.put, List.setIfInBounds_toArray, List.set_cons_zero, List.set_cons_succ]
                            refine wpAnyH_take (i := 10) (oi := { dst := some 165, op := Op.move (Operand.tmp 175), type := 37, pos := "law.go:290", after := #[{ on := 9, ground := Ground.data }], guard := none }) (v := .tuple #[.agg #[.int .i64 0, .int .i64 0, .int .i64 0, .int .u8 4, .int .i64 0, .int .i64 (j8 : Int), .int .i64 0, .int .i64 0, .int .i64 0, .int .i64 0, .string e.enc, .slice none 0 0, .slice none 0 0, .slice none 0 0, .slice none 0 0, .slice none 0 0], .int .i64 0]) rfl (by kernel_rfl) (by kernel_rfl) (by kernel_rfl) (fun _ _ _ h => h) (Or.inl ⟨by rfl, fun w' hSw => by clear hSw; go_simp⟩) (by assumption) ?_
                            simp only [Act.put, List.setIfInBounds_toArray, List.set_cons_zero, List.set_cons_succ]
                            refine wpAnyH_take (i := 11) (oi := { dst := some 176, op := Op.extract (Operand.tmp 165) 0, type := 36, pos := "law.go:290", after := #[{ on := 10, ground := Ground.data }], guard := none }) (v := .agg #[.int .i64 0, .int .i64 0, .int .i64 0, .int .u8 4, .int .i64 0, .int .i64 (j8 : Int), .int .i64 0, .int .i64 0, .int .i64 0, .int .i64 0, .string e.enc, .slice none 0 0, .slice none 0 0, .slice none 0 0, .slice none 0 0, .slice none 0 0]) rfl (by kernel_rfl) (by kernel_rfl) (by kernel_rfl) (fun _ _ _ h => h) (Or.inl ⟨by rfl, fun w' hSw => by clear hSw; go_simp⟩) (by assumption) ?_
                            simp only [Act.put, List.setIfInBounds_toArray, List.set_cons_zero, List.set_cons_succ]
                            refine wpAnyH_take (i := 12) (oi := { dst := some 177, op := Op.extract (Operand.tmp 165) 1, type := 28, pos := "law.go:290", after := #[{ on := 10, ground := Ground.data }, { on := 14, ground := Ground.gcOnly Departure.lateStores }], guard := none }) (v := .int .i64 0) rfl (by kernel_rfl) (by kernel_rfl) (by kernel_rfl) (fun _ _ _ h => h) (Or.inl ⟨by rfl, fun w' hSw => by clear hSw; go_simp⟩) (by assumption) ?_
                            simp only [Act.put, List.setIfInBounds_toArray, List.set_cons_zero, List.set_cons_succ]
                            refine wpAnyH_ready (rs := [14]) (by kernel_rfl) (by simp) ?_
                            refine AllReadyH.cons (o := { dst := none, op := Op.store 36 (Operand.tmp 18) (Operand.tmp 176), type := 0, pos := "law.go:290", after := #[{ on := 13, ground := Ground.data }, { on := 11, ground := Ground.data }, { on := 9, ground := Ground.chain }, { on := 0, ground := Ground.phase }, { on := 1, ground := Ground.phase }, { on := 2, ground := Ground.phase }, { on := 3, ground := Ground.phase }, { on := 4, ground := Ground.phase }, { on := 5, ground := Ground.phase }, { on := 6, ground := Ground.phase }, { on := 7, ground := Ground.phase }, { on := 8, ground := Ground.phase }, { on := 9, ground := Ground.phase }, { on := 10, ground := Ground.phase }, { on := 11, ground := Ground.phase }, { on := 12, ground := Ground.textOnly Departure.lateStores }, { on := 13, ground := Ground.phase }], guard := none }) rfl (fun K hK => ?_) (AllReadyH.nil)
                            refine wp_store_mid 36 (.tmp 18) (.tmp 176) rfl (w8.heap.size) 0 (Br.cells ⟨4, (j8 : Int), e.enc, none, 0, 0⟩) rfl rfl (by exact HRB.out.there) Tryz.sizeRecB (by simp [Value.oneCell']) ?_
                            have HRZ := hide (Rz.of ⟨4, (j8 : Int), e.enc, none, 0, 0⟩ HRB.out HX2.out (Nat.le_refl _))
                            refine hK.out _ _ (HRZ.out.only) (fun hHeld => ?_)
                            clear hK K
                            simp only [Act.put]
                            refine wpAnyH_take (i := 15) (oi := { dst := some 19, op := Op.assign (Operand.tmp 177), type := 28, pos := "law.go:290", after := #[{ on := 12, ground := Ground.data }, { on := 14, ground := Ground.chain }, { on := 0, ground := Ground.phase }, { on := 1, ground := Ground.phase }, { on := 2, ground := Ground.phase }, { on := 3, ground := Ground.phase }, { on := 4, ground := Ground.phase }, { on := 5, ground := Ground.phase }, { on := 6, ground := Ground.phase }, { on := 7, ground := Ground.phase }, { on := 8, ground := Ground.phase }, { on := 9, ground := Ground.phase }, { on := 10, ground := Ground.phase }, { on := 11, ground := Ground.phase }, { on := 12, ground := Ground.phase }, { on := 13, ground := Ground.phase }, { on := 14, ground := Ground.phase }], guard := none }) (v := .int .i64 0) rfl (by kernel_rfl) (by kernel_rfl) (by kernel_rfl) (fun _ _ _ h => h) (Or.inl ⟨by rfl, fun w' hSw => by clear hSw; go_simp⟩) (by assumption) ?_
                            simp only [Act.put, List.setIfInBounds_toArray, List.set_cons_zero, List.set_cons_succ]
                            refine wpAnyH_done (by kernel_rfl) ?_ _
                            refine NoPanic.normal ?_
                            go_wp2_with fail
                            go_meet
                            exact ⟨_, rfl, rfl, HRZ⟩
                          -- r26}
                      case rest =>
                        as_aux_lemma =>
                          obtain ⟨b8, rfl, rfl, HRZ8⟩ := hcut
                          have HW9 := hide (o2 HW8.out HRZ8.out.only)
                          go_wp2_with fail
                          refine (HAW.out _).mono ?_
                          rintro x w9 ⟨rfl, ho⟩
                          have HO9 := hide (o2 (o2 HO.out HW9.out) ho)
                          clear ho
                          go_wp2_with fail
                          go_ret
                          exact ⟨rfl, HO9.out⟩
      · clear hlt
        cases hok : e.ok with
        | false =>
          have HEC := hide (fun W => enc_no hok W)
          clear hok
          go_wp2_with fail
          refine (HEC.out _).mono ?_
          rintro x w3 ⟨rfl, ho⟩
          have HO3 := hide (o2 (o2 HO.out HW.out) ho)
          clear ho
          go_wp2_with fail
          refine (HAW.out _).mono ?_
          rintro x w4 ⟨rfl, ho⟩
          have HO4 := hide (o2 HO3.out ho)
          clear ho
          go_wp2_with fail
          go_ret
          exact ⟨rfl, HO4.out⟩
        | true =>
          as_aux_lemma =>
            have HEC := hide (fun W => enc_yes hok W)
            have HOK := hide hok
            clear hok
            go_wp2_with fail
            refine (HEC.out _).mono ?_
            rintro x w3 ⟨rfl, ho⟩
            have HS3 := hide (HSr.out.more ho)
            have HW3 := hide (o2 HW.out ho)
            have HEV3 := hide (HEV.out.more ho)
            have HFI := hide (sn_finds HS3.out HBr.out (by omega) HOK.out)
            clear ho d0 d1 d2 HEV HEC HSr
            obtain ⟨d0, d1, d2, _⟩ := HEV3.out
            go_wp2_with fail
            refine HFI.out.mono ?_
            rintro x w4 ⟨j, rfl, hj, ho⟩
            have HJ := hide hj
            have HS4 := hide (HS3.out.more ho)
            have HW4 := hide (o2 HW3.out ho)
            have HEV4 := hide (HEV3.out.more ho)
            obtain ⟨z, hjl, hz, hlv, hnd, hrg⟩ := HS4.out.leave HBr.out (by omega) HOK.out hj.1 hj.2.1
            have HLV := hide hlv
            have HND := hide hnd
            have HRG := hide hrg
            have hnl := need_leaf (j := j) hj.2.1 HOK.out hj.2.2.2
            have hj0 : ¬ (j : Int) < 1 := by have := hj.1.1; omega
            have hj1 : (1 : Int) ≤ (j : Int) := by omega
            have fc := HS4.out.fm.cell
            have hlen := HS4.out.fz.len
            have hnum := HBr.out.num
            obtain ⟨n, hn⟩ : ∃ n, zs.length = n := ⟨_, rfl⟩
            rw [hn] at fc
            have hjn : j < n := by omega
            have hj2 : ¬ (n : Int) ≤ (j : Int) := by omega
            have hj3 : (j : Int) < (n : Int) := by omega
            have hn9 : n ≤ 9999 := by omega
            have HNN := hide hn
            clear ho hlv hnd hrg hz hjl hj hn hlen hnum d0 d1 d2 HS3 HW3 HEV3 HFI
            have c0 := HRG.out.cell 0 (.int .i64 z.p.lsn) rfl
            have c1 := HRG.out.cell 1 (.int .i64 z.p.kind) rfl
            have c2 := HRG.out.cell 2 (.int .i64 z.p.level) rfl
            have c3 := HRG.out.cell 3 (.int .i64 z.p.right) rfl
            have c4 := HRG.out.cell 4 (.string z.p.high) rfl
            have c5 := HRG.out.cell 5 (.slice z.ao z.p.items.length z.cp) rfl
            rw [Nat.add_zero] at c0
            unfold Pz.ar at HND HLV
            rcases hnl with ⟨hm, hne⟩ | ⟨hm, m, hne, hmv⟩
            · rw [hne] at HND
              rw [lvV_in hm] at HLV
              simp only [] at HND
              have HM := hide hm
              clear hm hne
              go_wp2_with fail
              refine (HND.out _ (Only.refl _ _)).mono ?_
              rintro x w5 ⟨rfl, ho⟩
              have HO5 := hide ho
              have HS5 := hide (HS4.out.more ho)
              have HW5 := hide (o2 HW4.out ho)
              have HEV5 := hide (HEV4.out.more ho)
              have HRG5 := hide (HRG.out.more ho)
              have fc5 := HS5.out.fm.cell
              rw [HNN.out] at fc5
              have HFB5 : Hid (f < w5.heap.size) := HS5.out.fm.flt
              clear ho fc c0 c1 c2 c3 c4 c5 HS4 HW4 HEV4 HRG HND
              go_upto_region 16 with fail
              go_cut [14, 15] (fun x y wx => ∃ b, x = .pointer (some ⟨b, 0, none⟩) ∧ y = .int .i64 0 ∧ Hid (Rz w5 wx b ⟨4, (j : Int), e.enc, none, 0, 0⟩))
              case first =>
                as_aux_lemma =>
                  -- {r16
                  refine wp_region_noPanic ?_
                  refine wp_region_held_drew (S := fun W => Only (fun _ => False) w5 W) (by kernel_rfl) (Only.drew _ _) (fun hHeld => ?_)
                  refine wpAnyH_take (i := 0) (oi := { dst := some 84, op := Op.move (Operand.tmp 5), type := 49, pos := "law.go:276", after := #[], guard := none }) (v := .pointer (some ⟨f, 0, none⟩)) rfl (by kernel_rfl) (by kernel_rfl) (by kernel_rfl) (fun _ _ _ h => h) (Or.inl ⟨by rfl, fun w' hSw => by clear hSw; go_simp⟩) (by assumption) ?_
                  simp only [Act.put, List.setIfInBounds_toArray, List.set_cons_zero, List.set_cons_succ]
                  refine wpAnyH_take (i := 4) (oi := { dst := some 88, op := Op.move (Operand.tmp 11), type := 3, pos := "law.go:276", after := #[], guard := none }) (v := .int .i64 (j : Int)) rfl (by kernel_rfl) (by kernel_rfl) (by kernel_rfl) (fun _ _ _ h => h) (Or.inl ⟨by rfl, fun w' hSw => by clear hSw; go_simp⟩) (by assumption) ?_
                  simp only [Act.put, List.setIfInBounds_toArray, List.set_cons_zero, List.set_cons_succ]
                  refine wpAnyH_take (i := 7) (oi := { dst := some 91, op := Op.move (Operand.tmp 11), type := 3, pos := "law.go:276", after := #[], guard := none }) (v := .int .i64 (j : Int)) rfl (by kernel_rfl) (by kernel_rfl) (by kernel_rfl) (fun _ _ _ h => h) (Or.inl ⟨by rfl, fun w' hSw => by clear hSw; go_simp⟩) (by assumption) ?_
                  simp only [Act.put, List.setIfInBounds_toArray, List.set_cons_zero, List.set_cons_succ]
                  refine wpAnyH_take (i := 8) (oi := { dst := some 92, op := Op.load 41 (Operand.tmp 3), type := 41, pos := "law.go:276", after := #[], guard := none }) (v := .agg #[.string e.key, .int .i64 e.page, .int .i64 e.slot]) rfl (by kernel_rfl) (by kernel_rfl) (by kernel_rfl) (fun _ _ _ h => h) (yieldsIf_load_ev (by rfl) _ rfl rfl (fun W hW => HEV5.out.more hW)) (by assumption) ?_
                  simp only [Act.put, List.setIfInBounds_toArray, List.set_cons_zero, List.set_cons_succ]
                  refine wpAnyH_take (i := 1) (oi := { dst := some 85, op := Op.nilCheck (Operand.tmp 84), type := 0, pos := "law.go:276", after := #[{ on := 0, ground := Ground.data }], guard := none }) (v := .pointer (some ⟨f, 0, none⟩)) rfl (by kernel_rfl) (by kernel_rfl) (by kernel_rfl) (fun _ _ _ h => h) (Or.inl ⟨by rfl, fun w' hSw => by clear hSw; go_simp⟩) (by assumption) ?_
                  simp only [Act.put, List.setIfInBounds_toArray, List.set_cons_zero, List.set_cons_succ]
                  refine wpAnyH_take (i := 2) (oi := { dst := some 86, op := Op.fieldAddr 53 (Operand.tmp 85) 0, type := 0, pos := "law.go:276", after := #[{ on := 1, ground := Ground.data }], guard := none }) (v := .pointer (some ⟨f, 0, none⟩)) rfl (by kernel_rfl) (by kernel_rfl) (by kernel_rfl) (fun _ _ _ h => h) (Or.inl ⟨by rfl, fun w' hSw => by clear hSw; go_simp⟩) (by assumption) ?_
                  simp only [Act.put, List.setIfInBounds_toArray, List.set_cons_zero, List.set_cons_succ]
                  refine wpAnyH_take (i := 3) (oi := { dst := some 87, op := Op.load 51 (Operand.tmp 86), type := 51, pos := "law.go:276", after := #[{ on := 2, ground := Ground.data }], guard := none }) (v := .slice (some ⟨g, 0, none⟩) n cap) rfl (by kernel_rfl) (by kernel_rfl) (by kernel_rfl) (fun _ _ _ h => h) (yieldsIf_load_cell (by rfl) 51 _ rfl _ rfl (fun W hW => (hW.cell (p := ⟨f, 0, none⟩) HFB5.out (fun h => h)).trans fc5) (fun W hc => ld_pages hc)) (by assumption) ?_
                  simp only [Act.put, List.setIfInBounds_toArray, List.set_cons_zero, List.set_cons_succ]
                  refine wpAnyH_take (i := 5) (oi := { dst := some 89, op := Op.indexAddr 51 (Operand.tmp 87) (Operand.tmp 88), type := 0, pos := "law.go:276", after := #[{ on := 3, ground := Ground.data }, { on := 4, ground := Ground.data }], guard := none }) (v := .pointer (some ⟨g, j * 6, none⟩)) rfl (by kernel_rfl) (by kernel_rfl) (by kernel_rfl) (fun _ _ _ h => h) (Or.inl ⟨by rfl, fun w' hSw => by clear hSw; go_simp⟩) (by assumption) ?_
                  simp only [Act.put, List.setIfInBounds_toArray, List.set_cons_zero, List.set_cons_succ]
                  refine wpAnyH_take (i := 6) (oi := { dst := some 90, op := Op.load 24 (Operand.tmp 89), type := 24, pos := "law.go:276", after := #[{ on := 5, ground := Ground.data }], guard := none }) (v := .agg #[.int .i64 z.p.lsn, .int .i64 z.p.kind, .int .i64 z.p.level, .int .i64 z.p.right, .string z.p.high, .slice z.ao z.p.items.length z.cp]) rfl (by kernel_rfl) (by kernel_rfl) (by kernel_rfl) (fun _ _ _ h => h) (yieldsIf_load_pz (by rfl) _ rfl rfl (fun W hW => HRG5.out.more hW)) (by assumption) ?_
                  simp only [Act.put, List.setIfInBounds_toArray, List.set_cons_zero, List.set_cons_succ]
                  refine wpAnyH_ready (rs := [9, 13]) (by kernel_rfl) (by simp) ?_
                  refine AllReadyH.cons (o := { dst := some 93, op := Op.call { callee := Callee.value (Operand.func 21), args := #[Operand.tmp 90, Operand.tmp 91, Operand.tmp 92], argTypes := #[24, 3, 41] }, type := 37, pos := "law.go:276", after := #[{ on := 6, ground := Ground.data }, { on := 7, ground := Ground.data }, { on := 8, ground := Ground.data }], guard := none }) rfl (fun K hK => ?_) (AllReadyH.cons (o := { dst := some 14, op := Op.alloc 36, type := 0, pos := "law.go:276", after := #[], guard := none }) rfl (fun K hK => ?_) (AllReadyH.nil))
                  · go_simp
                    refine (HLV.out _ (o2 HO5.out hHeld)).mono ?_
                    rintro x x1 ⟨rfl, hox⟩
                    have HX1 := hide (o2 hHeld hox)
                    clear hox
                    refine hK.out _ _ (HX1.out) (fun hHeld => ?_)
                    clear hK K
                    try simp only [Act.put, List.setIfInBounds_toArray, List.set_cons_zero, List.set_cons_succ]
                    refine wpAnyH_take (i := 10) (oi := { dst := some 83, op := Op.move (Operand.tmp 93), type := 37, pos := "law.go:276", after := #[{ on := 9, ground := Ground.data }], guard := none }) (v := .tuple #[.agg #[.int .i64 0, .int .i64 0, .int .i64 0, .int .u8 4, .int .i64 0, .int .i64 (j : Int), .int .i64 0, .int .i64 0, .int .i64 0, .int .i64 0, .string e.enc, .slice none 0 0, .slice none 0 0, .slice none 0 0, .slice none 0 0, .slice none 0 0], .int .i64 0]) rfl (by kernel_rfl) (by kernel_rfl) (by kernel_rfl) (fun _ _ _ h => h) (Or.inl ⟨by rfl, fun w' hSw => by clear hSw; go_simp⟩) (by assumption) ?_
                    simp only [Act.put, List.setIfInBounds_toArray, List.set_cons_zero, List.set_cons_succ]
                    refine wpAnyH_take (i := 11) (oi := { dst := some 94, op := Op.extract (Operand.tmp 83) 0, type := 36, pos := "law.go:276", after := #[{ on := 10, ground := Ground.data }], guard := none }) (v := .agg #[.int .i64 0, .int .i64 0, .int .i64 0, .int .u8 4, .int .i64 0, .int .i64 (j : Int), .int .i64 0, .int .i64 0, .int .i64 0, .int .i64 0, .string e.enc, .slice none 0 0, .slice none 0 0, .slice none 0 0, .slice none 0 0, .slice none 0 0]) rfl (by kernel_rfl) (by kernel_rfl) (by kernel_rfl) (fun _ _ _ h => h) (Or.inl ⟨by rfl, fun w' hSw => by clear hSw; go_simp⟩) (by assumption) ?_
                    simp only [Act.put, List.setIfInBounds_toArray, List.set_cons_zero, List.set_cons_succ]
                    refine wpAnyH_take (i := 12) (oi := { dst := some 95, op := Op.extract (Operand.tmp 83) 1, type := 28, pos := "law.go:276", after := #[{ on := 10, ground := Ground.data }, { on := 14, ground := Ground.gcOnly Departure.lateStores }], guard := none }) (v := .int .i64 0) rfl (by kernel_rfl) (by kernel_rfl) (by kernel_rfl) (fun _ _ _ h => h) (Or.inl ⟨by rfl, fun w' hSw => by clear hSw; go_simp⟩) (by assumption) ?_
                    simp only [Act.put, List.setIfInBounds_toArray, List.set_cons_zero, List.set_cons_succ]
                    refine wpAnyH_ready (rs := [13]) (by kernel_rfl) (by simp) ?_
                    refine AllReadyH.cons (o := { dst := some 14, op := Op.alloc 36, type := 0, pos := "law.go:276", after := #[], guard := none }) rfl (fun K hK => ?_) (AllReadyH.nil)
                    go_simp
                    have HRB := hide (Rg.new x1 Br.none.cells 36)
                    have HX2 := hide (o2 HX1.out (onlyA x1 (.cells Br.none.cells 36)))
                    refine hK.out _ _ (HX2.out) (fun hHeld => ?_)
                    clear hK K
                    try simp only [Act.put, List.setIfInBounds_toArray, List.set_cons_zero, List.set_cons_succ]
                    refine wpAnyH_ready (rs := [14]) (by kernel_rfl) (by simp) ?_
                    refine AllReadyH.cons (o := { dst := none, op := Op.store 36 (Operand.tmp 14) (Operand.tmp 94), type := 0, pos := "law.go:276", after := #[{ on := 13, ground := Ground.data }, { on := 11, ground := Ground.data }, { on := 9, ground := Ground.chain }, { on := 0, ground := Ground.phase }, { on := 1, ground := Ground.phase }, { on := 2, ground := Ground.phase }, { on := 3, ground := Ground.phase }, { on := 4, ground := Ground.phase }, { on := 5, ground := Ground.phase }, { on := 6, ground := Ground.phase }, { on := 7, ground := Ground.phase }, { on := 8, ground := Ground.phase }, { on := 9, ground := Ground.phase }, { on := 10, ground := Ground.phase }, { on := 11, ground := Ground.phase }, { on := 12, ground := Ground.textOnly Departure.lateStores }, { on := 13, ground := Ground.phase }], guard := none }) rfl (fun K hK => ?_) (AllReadyH.nil)
                    refine wp_store_mid 36 (.tmp 14) (.tmp 94) rfl (x1.heap.size) 0 (Br.cells ⟨4, (j : Int), e.enc, none, 0, 0⟩) rfl rfl (by exact HRB.out.there) Tryz.sizeRecB (by simp [Value.oneCell']) ?_
                    have HRZ := hide (Rz.of ⟨4, (j : Int), e.enc, none, 0, 0⟩ HRB.out HX2.out HX1.out.size)
                    refine hK.out _ _ (HRZ.out.only) (fun hHeld => ?_)
                    clear hK K
                    simp only [Act.put]
                    refine wpAnyH_take (i := 15) (oi := { dst := some 15, op := Op.assign (Operand.tmp 95), type := 28, pos := "law.go:276", after := #[{ on := 12, ground := Ground.data }, { on := 14, ground := Ground.chain }, { on := 0, ground := Ground.phase }, { on := 1, ground := Ground.phase }, { on := 2, ground := Ground.phase }, { on := 3, ground := Ground.phase }, { on := 4, ground := Ground.phase }, { on := 5, ground := Ground.phase }, { on := 6, ground := Ground.phase }, { on := 7, ground := Ground.phase }, { on := 8, ground := Ground.phase }, { on := 9, ground := Ground.phase }, { on := 10, ground := Ground.phase }, { on := 11, ground := Ground.phase }, { on := 12, ground := Ground.phase }, { on := 13, ground := Ground.phase }, { on := 14, ground := Ground.phase }], guard := none }) (v := .int .i64 0) rfl (by kernel_rfl) (by kernel_rfl) (by kernel_rfl) (fun _ _ _ h => h) (Or.inl ⟨by rfl, fun w' hSw => by clear hSw; go_simp⟩) (by assumption) ?_
                    simp only [Act.put, List.setIfInBounds_toArray, List.set_cons_zero, List.set_cons_succ]
                    refine wpAnyH_done (by kernel_rfl) ?_ _
                    refine NoPanic.normal ?_
                    go_wp2_with fail
                    go_meet
                    exact ⟨_, rfl, rfl, HRZ⟩
                  · go_simp
                    have HRA : Hid (Rg ((w5.alloc (.cells Br.none.cells 36)).drew) w5.heap.size 0 Br.none.cl) := (Rg.new w5 Br.none.cells 36).more (Only.drew _ _)
                    have HXA : Hid (Only (fun _ => False) w5 ((w5.alloc (.cells Br.none.cells 36)).drew)) := o2 (onlyA _ _) (Only.drew _ _)
                    refine hK.out _ _ (HXA.out) (fun hHeld => ?_)
                    clear hK K
                    try simp only [Act.put, List.setIfInBounds_toArray, List.set_cons_zero, List.set_cons_succ]
                    refine wpAnyH_ready (rs := [9]) (by kernel_rfl) (by simp) ?_
                    refine AllReadyH.cons (o := { dst := some 93, op := Op.call { callee := Callee.value (Operand.func 21), args := #[Operand.tmp 90, Operand.tmp 91, Operand.tmp 92], argTypes := #[24, 3, 41] }, type := 37, pos := "law.go:276", after := #[{ on := 6, ground := Ground.data }, { on := 7, ground := Ground.data }, { on := 8, ground := Ground.data }], guard := none }) rfl (fun K hK => ?_) (AllReadyH.nil)
                    go_simp
                    refine (HLV.out _ (o2 HO5.out hHeld)).mono ?_
                    rintro x x1 ⟨rfl, hox⟩
                    have HX1 := hide (o2 hHeld hox)
                    have HRB := hide (HRA.out.more hox)
                    have HX2 := hide HX1.out
                    clear hox
                    refine hK.out _ _ (HX1.out) (fun hHeld => ?_)
                    clear hK K
                    try simp only [Act.put, List.setIfInBounds_toArray, List.set_cons_zero, List.set_cons_succ]
                    refine wpAnyH_take (i := 10) (oi := { dst := some 83, op := Op.move (Operand.tmp 93), type := 37, pos := "law.go:276", after := #[{ on := 9, ground := Ground.data }], guard := none }) (v := .tuple #[.agg #[.int .i64 0, .int .i64 0, .int .i64 0, .int .u8 4, .int .i64 0, .int .i64 (j : Int), .int .i64 0, .int .i64 0, .int .i64 0, .int .i64 0, .string e.enc, .slice none 0 0, .slice none 0 0, .slice none 0 0, .slice none 0 0, .slice none 0 0], .int .i64 0]) rfl (by kernel_rfl) (by kernel_rfl) (by kernel_rfl) (fun _ _ _ h => h) (Or.inl ⟨by rfl, fun w' hSw => by clear hSw; go_simp⟩) (by assumption) ?_
                    simp only [Act.put, List.setIfInBounds_toArray, List.set_cons_zero, List.set_cons_succ]
                    refine wpAnyH_take (i := 11) (oi := { dst := some 94, op := Op.extract (Operand.tmp 83) 0, type := 36, pos := "law.go:276", after := #[{ on := 10, ground := Ground.data }], guard := none }) (v := .agg #[.int .i64 0, .int .i64 0, .int .i64 0, .int .u8 4, .int .i64 0, .int .i64 (j : Int), .int .i64 0, .int .i64 0, .int .i64 0, .int .i64 0, .string e.enc, .slice none 0 0, .slice none 0 0, .slice none 0 0, .slice none 0 0, .slice none 0 0]) rfl (by kernel_rfl) (by kernel_rfl) (by kernel_rfl) (fun _ _ _ h => h) (Or.inl ⟨by rfl, fun w' hSw => by clear hSw; go_simp⟩) (by assumption) ?_
                    simp only [Act.put, List.setIfInBounds_toArray, List.set_cons_zero, List.set_cons_succ]
                    refine wpAnyH_take (i := 12) (oi := { dst := some 95, op := Op.extract (Operand.tmp 83) 1, type := 28, pos := "law.go:276", after := #[{ on := 10, ground := Ground.data }, { on := 14, ground := Ground.gcOnly Departure.lateStores }], guard := none }) (v := .int .i64 0) rfl (by kernel_rfl) (by kernel_rfl) (by kernel_rfl) (fun _ _ _ h => h) (Or.inl ⟨by rfl, fun w' hSw => by clear hSw; go_simp⟩) (by assumption) ?_
                    simp only [Act.put, List.setIfInBounds_toArray, List.set_cons_zero, List.set_cons_succ]
                    refine wpAnyH_ready (rs := [14]) (by kernel_rfl) (by simp) ?_
                    refine AllReadyH.cons (o := { dst := none, op := Op.store 36 (Operand.tmp 14) (Operand.tmp 94), type := 0, pos := "law.go:276", after := #[{ on := 13, ground := Ground.data }, { on := 11, ground := Ground.data }, { on := 9, ground := Ground.chain }, { on := 0, ground := Ground.phase }, { on := 1, ground := Ground.phase }, { on := 2, ground := Ground.phase }, { on := 3, ground := Ground.phase }, { on := 4, ground := Ground.phase }, { on := 5, ground := Ground.phase }, { on := 6, ground := Ground.phase }, { on := 7, ground := Ground.phase }, { on := 8, ground := Ground.phase }, { on := 9, ground := Ground.phase }, { on := 10, ground := Ground.phase }, { on := 11, ground := Ground.phase }, { on := 12, ground := Ground.textOnly Departure.lateStores }, { on := 13, ground := Ground.phase }], guard := none }) rfl (fun K hK => ?_) (AllReadyH.nil)
                    refine wp_store_mid 36 (.tmp 14) (.tmp 94) rfl (w5.heap.size) 0 (Br.cells ⟨4, (j : Int), e.enc, none, 0, 0⟩) rfl rfl (by exact HRB.out.there) Tryz.sizeRecB (by simp [Value.oneCell']) ?_
                    have HRZ := hide (Rz.of ⟨4, (j : Int), e.enc, none, 0, 0⟩ HRB.out HX2.out (Nat.le_refl _))
                    refine hK.out _ _ (HRZ.out.only) (fun hHeld => ?_)
                    clear hK K
                    simp only [Act.put]
                    refine wpAnyH_take (i := 15) (oi := { dst := some 15, op := Op.assign (Operand.tmp 95), type := 28, pos := "law.go:276", after := #[{ on := 12, ground := Ground.data }, { on := 14, ground := Ground.chain }, { on := 0, ground := Ground.phase }, { on := 1, ground := Ground.phase }, { on := 2, ground := Ground.phase }, { on := 3, ground := Ground.phase }, { on := 4, ground := Ground.phase }, { on := 5, ground := Ground.phase }, { on := 6, ground := Ground.phase }, { on := 7, ground := Ground.phase }, { on := 8, ground := Ground.phase }, { on := 9, ground := Ground.phase }, { on := 10, ground := Ground.phase }, { on := 11, ground := Ground.phase }, { on := 12, ground := Ground.phase }, { on := 13, ground := Ground.phase }, { on := 14, ground := Ground.phase }], guard := none }) (v := .int .i64 0) rfl (by kernel_rfl) (by kernel_rfl) (by kernel_rfl) (fun _ _ _ h => h) (Or.inl ⟨by rfl, fun w' hSw => by clear hSw; go_simp⟩) (by assumption) ?_
                    simp only [Act.put, List.setIfInBounds_toArray, List.set_cons_zero, List.set_cons_succ]
                    refine wpAnyH_done (by kernel_rfl) ?_ _
                    refine NoPanic.normal ?_
                    go_wp2_with fail
                    go_meet
                    exact ⟨_, rfl, rfl, HRZ⟩
                  -- r16}
              case rest =>
                as_aux_lemma =>
                  obtain ⟨b, rfl, rfl, HRZ⟩ := hcut
                  have HS6 := hide (HS5.out.more HRZ.out.only)
                  have HW6 := hide (o2 HW5.out HRZ.out.only)
                  have HEV6 := hide (HEV5.out.more HRZ.out.only)
                  have HRC := hide HRZ.out.at_
                  have HDO := hide (HS6.out.out HBr.out (by omega) HOK.out HJ.out.1 HJ.out.2.1 HM.out)
                  clear fc5 HS5 HW5 HEV5 HRZ
                  go_wp2_with (refine wpList_loadg_br rfl (.tmp 14) rfl b rfl ⟨4, (j : Int), e.enc, none, 0, 0⟩ HRC.out ?_; go_frame)
                  refine HDO.out.mono ?_
                  rintro x w7 ⟨rfl, g7, cap7, zs7, F7, hs7, hb7, ho7, hg7⟩
                  have HS7 := hide hs7
                  have HB7 := hide hb7
                  have HW7 : Hid (Only (fun _ => False) W0 w7) := HW6.out.trans ho7 (fun k hk z => by have := HFG.out k z; omega)
                  have HEV7 := hide (HEV6.out.kept ho7 (fun q => by have h1 := HFG.out _ q; have h2 := HWB.out; omega))
                  have HEN := hide (sn_enters HS7.out HB7.out (by omega) HOK.out true)
                  clear hs7 hb7 ho7 hg7 HS6 HW6 HEV6 HDO HRC
                  obtain ⟨d0, d1, d2, _⟩ := HEV7.out
                  go_wp2_with fail
                  refine HEN.out.mono ?_
                  rintro x w8 ⟨rfl, g8, cap8, zs8, N8, F8, lo8, _, _, ho8, hg8⟩
                  have HW8 : Hid (Only (fun _ => False) W0 w8) := HW7.out.trans ho8 (fun k hk z => by
                    have h1 := HS7.out.f0
                    have h2 := HS7.out.g0
                    omega)
                  clear ho8 hg8
                  go_wp2_with fail
                  refine (HAW.out _).mono ?_
                  rintro x w9 ⟨rfl, ho⟩
                  have HO9 := hide (o2 (o2 HO.out HW8.out) ho)
                  clear ho
                  go_wp2_with fail
                  go_ret
                  exact ⟨rfl, HO9.out⟩
            · rw [hne] at HND
              rw [lvV_out hm] at HLV
              simp only [] at HND
              clear hm hne
              go_wp2_with fail
              refine (HND.out _ (Only.refl _ _)).mono ?_
              rintro x w5 ⟨rfl, ho⟩
              have HO5 := hide ho
              have HS5 := hide (HS4.out.more ho)
              have HW5 := hide (o2 HW4.out ho)
              have HEV5 := hide (HEV4.out.more ho)
              have HRG5 := hide (HRG.out.more ho)
              have fc5 := HS5.out.fm.cell
              rw [HNN.out] at fc5
              have HFB5 : Hid (f < w5.heap.size) := HS5.out.fm.flt
              clear ho fc c0 c1 c2 c3 c4 c5 HS4 HW4 HEV4 HRG HND
              go_upto_region 18 with fail
              go_cut [137] (fun x wx => x = .bool false ∧ wx = w5)
              case first =>
                as_aux_lemma =>
                  rcases hmv with rfl | ⟨rfl, hne1⟩ | ⟨rfl, he1⟩
                  all_goals go_wp2_with fail
                  all_goals go_meet
                  all_goals first | exact ⟨rfl, rfl⟩ | exact ⟨by rw [beq_false_of_ne hne1], rfl⟩
              case rest =>
                as_aux_lemma =>
                  obtain ⟨rfl, hwx⟩ := hcut
                  obtain rfl := hwx.symm
                  go_upto_region 20 with fail
                  go_cut [16, 17] (fun x y wx => ∃ b, x = .pointer (some ⟨b, 0, none⟩) ∧ y = .int .i64 150 ∧ Hid (Rz w5 wx b Br.none))
                  case first =>
                    as_aux_lemma =>
                      -- {r20
                      refine wp_region_noPanic ?_
                      refine wp_region_held_drew (S := fun W => Only (fun _ => False) w5 W) (by kernel_rfl) (Only.drew _ _) (fun hHeld => ?_)
                      refine wpAnyH_take (i := 0) (oi := { dst := some 139, op := Op.move (Operand.tmp 5), type := 49, pos := "law.go:282", after := #[], guard := none }) (v := .pointer (some ⟨f, 0, none⟩)) rfl (by kernel_rfl) (by kernel_rfl) (by kernel_rfl) (fun _ _ _ h => h) (Or.inl ⟨by rfl, fun w' hSw => by clear hSw; go_simp⟩) (by assumption) ?_
                      simp only [Act.put, List.setIfInBounds_toArray, List.set_cons_zero, List.set_cons_succ]
                      refine wpAnyH_take (i := 4) (oi := { dst := some 143, op := Op.move (Operand.tmp 11), type := 3, pos := "law.go:282", after := #[], guard := none }) (v := .int .i64 (j : Int)) rfl (by kernel_rfl) (by kernel_rfl) (by kernel_rfl) (fun _ _ _ h => h) (Or.inl ⟨by rfl, fun w' hSw => by clear hSw; go_simp⟩) (by assumption) ?_
                      simp only [Act.put, List.setIfInBounds_toArray, List.set_cons_zero, List.set_cons_succ]
                      refine wpAnyH_take (i := 7) (oi := { dst := some 146, op := Op.move (Operand.tmp 11), type := 3, pos := "law.go:282", after := #[], guard := none }) (v := .int .i64 (j : Int)) rfl (by kernel_rfl) (by kernel_rfl) (by kernel_rfl) (fun _ _ _ h => h) (Or.inl ⟨by rfl, fun w' hSw => by clear hSw; go_simp⟩) (by assumption) ?_
                      simp only [Act.put, List.setIfInBounds_toArray, List.set_cons_zero, List.set_cons_succ]
                      refine wpAnyH_take (i := 8) (oi := { dst := some 147, op := Op.load 41 (Operand.tmp 3), type := 41, pos := "law.go:282", after := #[], guard := none }) (v := .agg #[.string e.key, .int .i64 e.page, .int .i64 e.slot]) rfl (by kernel_rfl) (by kernel_rfl) (by kernel_rfl) (fun _ _ _ h => h) (yieldsIf_load_ev (by rfl) _ rfl rfl (fun W hW => HEV5.out.more hW)) (by assumption) ?_
                      simp only [Act.put, List.setIfInBounds_toArray, List.set_cons_zero, List.set_cons_succ]
                      refine wpAnyH_take (i := 1) (oi := { dst := some 140, op := Op.nilCheck (Operand.tmp 139), type := 0, pos := "law.go:282", after := #[{ on := 0, ground := Ground.data }], guard := none }) (v := .pointer (some ⟨f, 0, none⟩)) rfl (by kernel_rfl) (by kernel_rfl) (by kernel_rfl) (fun _ _ _ h => h) (Or.inl ⟨by rfl, fun w' hSw => by clear hSw; go_simp⟩) (by assumption) ?_
                      simp only [Act.put, List.setIfInBounds_toArray, List.set_cons_zero, List.set_cons_succ]
                      refine wpAnyH_take (i := 2) (oi := { dst := some 141, op := Op.fieldAddr 53 (Operand.tmp 140) 0, type := 0, pos := "law.go:282", after := #[{ on := 1, ground := Ground.data }], guard := none }) (v := .pointer (some ⟨f, 0, none⟩)) rfl (by kernel_rfl) (by kernel_rfl) (by kernel_rfl) (fun _ _ _ h => h) (Or.inl ⟨by rfl, fun w' hSw => by clear hSw; go_simp⟩) (by assumption) ?_
                      simp only [Act.put, List.setIfInBounds_toArray, List.set_cons_zero, List.set_cons_succ]
                      refine wpAnyH_take (i := 3) (oi := { dst := some 142, op := Op.load 51 (Operand.tmp 141), type := 51, pos := "law.go:282", after := #[{ on := 2, ground := Ground.data }], guard := none }) (v := .slice (some ⟨g, 0, none⟩) n cap) rfl (by kernel_rfl) (by kernel_rfl) (by kernel_rfl) (fun _ _ _ h => h) (yieldsIf_load_cell (by rfl) 51 _ rfl _ rfl (fun W hW => (hW.cell (p := ⟨f, 0, none⟩) HFB5.out (fun h => h)).trans fc5) (fun W hc => ld_pages hc)) (by assumption) ?_
                      simp only [Act.put, List.setIfInBounds_toArray, List.set_cons_zero, List.set_cons_succ]
                      refine wpAnyH_take (i := 5) (oi := { dst := some 144, op := Op.indexAddr 51 (Operand.tmp 142) (Operand.tmp 143), type := 0, pos := "law.go:282", after := #[{ on := 3, ground := Ground.data }, { on := 4, ground := Ground.data }], guard := none }) (v := .pointer (some ⟨g, j * 6, none⟩)) rfl (by kernel_rfl) (by kernel_rfl) (by kernel_rfl) (fun _ _ _ h => h) (Or.inl ⟨by rfl, fun w' hSw => by clear hSw; go_simp⟩) (by assumption) ?_
                      simp only [Act.put, List.setIfInBounds_toArray, List.set_cons_zero, List.set_cons_succ]
                      refine wpAnyH_take (i := 6) (oi := { dst := some 145, op := Op.load 24 (Operand.tmp 144), type := 24, pos := "law.go:282", after := #[{ on := 5, ground := Ground.data }], guard := none }) (v := .agg #[.int .i64 z.p.lsn, .int .i64 z.p.kind, .int .i64 z.p.level, .int .i64 z.p.right, .string z.p.high, .slice z.ao z.p.items.length z.cp]) rfl (by kernel_rfl) (by kernel_rfl) (by kernel_rfl) (fun _ _ _ h => h) (yieldsIf_load_pz (by rfl) _ rfl rfl (fun W hW => HRG5.out.more hW)) (by assumption) ?_
                      simp only [Act.put, List.setIfInBounds_toArray, List.set_cons_zero, List.set_cons_succ]
                      refine wpAnyH_ready (rs := [9, 13]) (by kernel_rfl) (by simp) ?_
                      refine AllReadyH.cons (o := { dst := some 148, op := Op.call { callee := Callee.value (Operand.func 21), args := #[Operand.tmp 145, Operand.tmp 146, Operand.tmp 147], argTypes := #[24, 3, 41] }, type := 37, pos := "law.go:282", after := #[{ on := 6, ground := Ground.data }, { on := 7, ground := Ground.data }, { on := 8, ground := Ground.data }], guard := none }) rfl (fun K hK => ?_) (AllReadyH.cons (o := { dst := some 16, op := Op.alloc 36, type := 0, pos := "law.go:282", after := #[], guard := none }) rfl (fun K hK => ?_) (AllReadyH.nil))
                      · go_simp
                        refine (HLV.out _ (o2 HO5.out hHeld)).mono ?_
                        rintro x x1 ⟨rfl, hox⟩
                        have HX1 := hide (o2 hHeld hox)
                        clear hox
                        refine hK.out _ _ (HX1.out) (fun hHeld => ?_)
                        clear hK K
                        try simp only [Act.put, List.setIfInBounds_toArray, List.set_cons_zero, List.set_cons_succ]
                        refine wpAnyH_take (i := 10) (oi := { dst := some 138, op := Op.move (Operand.tmp 148), type := 37, pos := "law.go:282", after := #[{ on := 9, ground := Ground.data }], guard := none }) (v := .tuple #[.agg #[.int .i64 0, .int .i64 0, .int .i64 0, .int .u8 0, .int .i64 0, .int .i64 0, .int .i64 0, .int .i64 0, .int .i64 0, .int .i64 0, .string ⟨#[]⟩, .slice none 0 0, .slice none 0 0, .slice none 0 0, .slice none 0 0, .slice none 0 0], .int .i64 150]) rfl (by kernel_rfl) (by kernel_rfl) (by kernel_rfl) (fun _ _ _ h => h) (Or.inl ⟨by rfl, fun w' hSw => by clear hSw; go_simp⟩) (by assumption) ?_
                        simp only [Act.put, List.setIfInBounds_toArray, List.set_cons_zero, List.set_cons_succ]
                        refine wpAnyH_take (i := 11) (oi := { dst := some 149, op := Op.extract (Operand.tmp 138) 0, type := 36, pos := "law.go:282", after := #[{ on := 10, ground := Ground.data }], guard := none }) (v := .agg #[.int .i64 0, .int .i64 0, .int .i64 0, .int .u8 0, .int .i64 0, .int .i64 0, .int .i64 0, .int .i64 0, .int .i64 0, .int .i64 0, .string ⟨#[]⟩, .slice none 0 0, .slice none 0 0, .slice none 0 0, .slice none 0 0, .slice none 0 0]) rfl (by kernel_rfl) (by kernel_rfl) (by kernel_rfl) (fun _ _ _ h => h) (Or.inl ⟨by rfl, fun w' hSw => by clear hSw; go_simp⟩) (by assumption) ?_
                        simp only [Act.put, List.setIfInBounds_toArray, List.set_cons_zero, List.set_cons_succ]
                        refine wpAnyH_take (i := 12) (oi := { dst := some 150, op := Op.extract (Operand.tmp 138) 1, type := 28, pos := "law.go:282", after := #[{ on := 10, ground := Ground.data }, { on := 14, ground := Ground.gcOnly Departure.lateStores }], guard := none }) (v := .int .i64 150) rfl (by kernel_rfl) (by kernel_rfl) (by kernel_rfl) (fun _ _ _ h => h) (Or.inl ⟨by rfl, fun w' hSw => by clear hSw; go_simp⟩) (by assumption) ?_
                        simp only [Act.put, List.setIfInBounds_toArray, List.set_cons_zero, List.set_cons_succ]
                        refine wpAnyH_ready (rs := [13]) (by kernel_rfl) (by simp) ?_
                        refine AllReadyH.cons (o := { dst := some 16, op := Op.alloc 36, type := 0, pos := "law.go:282", after := #[], guard := none }) rfl (fun K hK => ?_) (AllReadyH.nil)
                        go_simp
                        have HRB := hide (Rg.new x1 Br.none.cells 36)
                        have HX2 := hide (o2 HX1.out (onlyA x1 (.cells Br.none.cells 36)))
                        refine hK.out _ _ (HX2.out) (fun hHeld => ?_)
                        clear hK K
                        try simp only [Act.put, List.setIfInBounds_toArray, List.set_cons_zero, List.set_cons_succ]
                        refine wpAnyH_ready (rs := [14]) (by kernel_rfl) (by simp) ?_
                        refine AllReadyH.cons (o := { dst := none, op := Op.store 36 (Operand.tmp 16) (Operand.tmp 149), type := 0, pos := "law.go:282", after := #[{ on := 13, ground := Ground.data }, { on := 11, ground := Ground.data }, { on := 9, ground := Ground.chain }, { on := 0, ground := Ground.phase }, { on := 1, ground := Ground.phase }, { on := 2, ground := Ground.phase }, { on := 3, ground := Ground.phase }, { on := 4, ground := Ground.phase }, { on := 5, ground := Ground.phase }, { on := 6, ground := Ground.phase }, { on := 7, ground := Ground.phase }, { on := 8, ground := Ground.phase }, { on := 9, ground := Ground.phase }, { on := 10, ground := Ground.phase }, { on := 11, ground := Ground.phase }, { on := 12, ground := Ground.textOnly Departure.lateStores }, { on := 13, ground := Ground.phase }], guard := none }) rfl (fun K hK => ?_) (AllReadyH.nil)
                        refine wp_store_mid 36 (.tmp 16) (.tmp 149) rfl (x1.heap.size) 0 (Br.cells Br.none) rfl rfl (by exact HRB.out.there) Tryz.sizeRecB (by simp [Value.oneCell']) ?_
                        have HRZ := hide (Rz.of Br.none HRB.out HX2.out HX1.out.size)
                        refine hK.out _ _ (HRZ.out.only) (fun hHeld => ?_)
                        clear hK K
                        simp only [Act.put]
                        refine wpAnyH_take (i := 15) (oi := { dst := some 17, op := Op.assign (Operand.tmp 150), type := 28, pos := "law.go:282", after := #[{ on := 12, ground := Ground.data }, { on := 14, ground := Ground.chain }, { on := 0, ground := Ground.phase }, { on := 1, ground := Ground.phase }, { on := 2, ground := Ground.phase }, { on := 3, ground := Ground.phase }, { on := 4, ground := Ground.phase }, { on := 5, ground := Ground.phase }, { on := 6, ground := Ground.phase }, { on := 7, ground := Ground.phase }, { on := 8, ground := Ground.phase }, { on := 9, ground := Ground.phase }, { on := 10, ground := Ground.phase }, { on := 11, ground := Ground.phase }, { on := 12, ground := Ground.phase }, { on := 13, ground := Ground.phase }, { on := 14, ground := Ground.phase }], guard := none }) (v := .int .i64 150) rfl (by kernel_rfl) (by kernel_rfl) (by kernel_rfl) (fun _ _ _ h => h) (Or.inl ⟨by rfl, fun w' hSw => by clear hSw; go_simp⟩) (by assumption) ?_
                        simp only [Act.put, List.setIfInBounds_toArray, List.set_cons_zero, List.set_cons_succ]
                        refine wpAnyH_done (by kernel_rfl) ?_ _
                        refine NoPanic.normal ?_
                        go_wp2_with fail
                        go_meet
                        exact ⟨_, rfl, rfl, HRZ⟩
                      · go_simp
                        have HRA : Hid (Rg ((w5.alloc (.cells Br.none.cells 36)).drew) w5.heap.size 0 Br.none.cl) := (Rg.new w5 Br.none.cells 36).more (Only.drew _ _)
                        have HXA : Hid (Only (fun _ => False) w5 ((w5.alloc (.cells Br.none.cells 36)).drew)) := o2 (onlyA _ _) (Only.drew _ _)
                        refine hK.out _ _ (HXA.out) (fun hHeld => ?_)
                        clear hK K
                        try simp only [Act.put, List.setIfInBounds_toArray, List.set_cons_zero, List.set_cons_succ]
                        refine wpAnyH_ready (rs := [9]) (by kernel_rfl) (by simp) ?_
                        refine AllReadyH.cons (o := { dst := some 148, op := Op.call { callee := Callee.value (Operand.func 21), args := #[Operand.tmp 145, Operand.tmp 146, Operand.tmp 147], argTypes := #[24, 3, 41] }, type := 37, pos := "law.go:282", after := #[{ on := 6, ground := Ground.data }, { on := 7, ground := Ground.data }, { on := 8, ground := Ground.data }], guard := none }) rfl (fun K hK => ?_) (AllReadyH.nil)
                        go_simp
                        refine (HLV.out _ (o2 HO5.out hHeld)).mono ?_
                        rintro x x1 ⟨rfl, hox⟩
                        have HX1 := hide (o2 hHeld hox)
                        have HRB := hide (HRA.out.more hox)
                        have HX2 := hide HX1.out
                        clear hox
                        refine hK.out _ _ (HX1.out) (fun hHeld => ?_)
                        clear hK K
                        try simp only [Act.put, List.setIfInBounds_toArray, List.set_cons_zero, List.set_cons_succ]
                        refine wpAnyH_take (i := 10) (oi := { dst := some 138, op := Op.move (Operand.tmp 148), type := 37, pos := "law.go:282", after := #[{ on := 9, ground := Ground.data }], guard := none }) (v := .tuple #[.agg #[.int .i64 0, .int .i64 0, .int .i64 0, .int .u8 0, .int .i64 0, .int .i64 0, .int .i64 0, .int .i64 0, .int .i64 0, .int .i64 0, .string ⟨#[]⟩, .slice none 0 0, .slice none 0 0, .slice none 0 0, .slice none 0 0, .slice none 0 0], .int .i64 150]) rfl (by kernel_rfl) (by kernel_rfl) (by kernel_rfl) (fun _ _ _ h => h) (Or.inl ⟨by rfl, fun w' hSw => by clear hSw; go_simp⟩) (by assumption) ?_
                        simp only [Act.put, List.setIfInBounds_toArray, List.set_cons_zero, List.set_cons_succ]
                        refine wpAnyH_take (i := 11) (oi := { dst := some 149, op := Op.extract (Operand.tmp 138) 0, type := 36, pos := "law.go:282", after := #[{ on := 10, ground := Ground.data }], guard := none }) (v := .agg #[.int .i64 0, .int .i64 0, .int .i64 0, .int .u8 0, .int .i64 0, .int .i64 0, .int .i64 0, .int .i64 0, .int .i64 0, .int .i64 0, .string ⟨#[]⟩, .slice none 0 0, .slice none 0 0, .slice none 0 0, .slice none 0 0, .slice none 0 0]) rfl (by kernel_rfl) (by kernel_rfl) (by kernel_rfl) (fun _ _ _ h => h) (Or.inl ⟨by rfl, fun w' hSw => by clear hSw; go_simp⟩) (by assumption) ?_
                        simp only [Act.put, List.setIfInBounds_toArray, List.set_cons_zero, List.set_cons_succ]
                        refine wpAnyH_take (i := 12) (oi := { dst := some 150, op := Op.extract (Operand.tmp 138) 1, type := 28, pos := "law.go:282", after := #[{ on := 10, ground := Ground.data }, { on := 14, ground := Ground.gcOnly Departure.lateStores }], guard := none }) (v := .int .i64 150) rfl (by kernel_rfl) (by kernel_rfl) (by kernel_rfl) (fun _ _ _ h => h) (Or.inl ⟨by rfl, fun w' hSw => by clear hSw; go_simp⟩) (by assumption) ?_
                        simp only [Act.put, List.setIfInBounds_toArray, List.set_cons_zero, List.set_cons_succ]
                        refine wpAnyH_ready (rs := [14]) (by kernel_rfl) (by simp) ?_
                        refine AllReadyH.cons (o := { dst := none, op := Op.store 36 (Operand.tmp 16) (Operand.tmp 149), type := 0, pos := "law.go:282", after := #[{ on := 13, ground := Ground.data }, { on := 11, ground := Ground.data }, { on := 9, ground := Ground.chain }, { on := 0, ground := Ground.phase }, { on := 1, ground := Ground.phase }, { on := 2, ground := Ground.phase }, { on := 3, ground := Ground.phase }, { on := 4, ground := Ground.phase }, { on := 5, ground := Ground.phase }, { on := 6, ground := Ground.phase }, { on := 7, ground := Ground.phase }, { on := 8, ground := Ground.phase }, { on := 9, ground := Ground.phase }, { on := 10, ground := Ground.phase }, { on := 11, ground := Ground.phase }, { on := 12, ground := Ground.textOnly Departure.lateStores }, { on := 13, ground := Ground.phase }], guard := none }) rfl (fun K hK => ?_) (AllReadyH.nil)
                        refine wp_store_mid 36 (.tmp 16) (.tmp 149) rfl (w5.heap.size) 0 (Br.cells Br.none) rfl rfl (by exact HRB.out.there) Tryz.sizeRecB (by simp [Value.oneCell']) ?_
                        have HRZ := hide (Rz.of Br.none HRB.out HX2.out (Nat.le_refl _))
                        refine hK.out _ _ (HRZ.out.only) (fun hHeld => ?_)
                        clear hK K
                        simp only [Act.put]
                        refine wpAnyH_take (i := 15) (oi := { dst := some 17, op := Op.assign (Operand.tmp 150), type := 28, pos := "law.go:282", after := #[{ on := 12, ground := Ground.data }, { on := 14, ground := Ground.chain }, { on := 0, ground := Ground.phase }, { on := 1, ground := Ground.phase }, { on := 2, ground := Ground.phase }, { on := 3, ground := Ground.phase }, { on := 4, ground := Ground.phase }, { on := 5, ground := Ground.phase }, { on := 6, ground := Ground.phase }, { on := 7, ground := Ground.phase }, { on := 8, ground := Ground.phase }, { on := 9, ground := Ground.phase }, { on := 10, ground := Ground.phase }, { on := 11, ground := Ground.phase }, { on := 12, ground := Ground.phase }, { on := 13, ground := Ground.phase }, { on := 14, ground := Ground.phase }], guard := none }) (v := .int .i64 150) rfl (by kernel_rfl) (by kernel_rfl) (by kernel_rfl) (fun _ _ _ h => h) (Or.inl ⟨by rfl, fun w' hSw => by clear hSw; go_simp⟩) (by assumption) ?_
                        simp only [Act.put, List.setIfInBounds_toArray, List.set_cons_zero, List.set_cons_succ]
                        refine wpAnyH_done (by kernel_rfl) ?_ _
                        refine NoPanic.normal ?_
                        go_wp2_with fail
                        go_meet
                        exact ⟨_, rfl, rfl, HRZ⟩
                      -- r20}
                  case rest =>
                    as_aux_lemma =>
                      obtain ⟨b, rfl, rfl, HRZ⟩ := hcut
                      have HS6 := hide (HS5.out.more HRZ.out.only)
                      have HW6 := hide (o2 HW5.out HRZ.out.only)
                      have HEV6 := hide (HEV5.out.more HRZ.out.only)
                      have HEN := hide (sn_enters HS6.out HBr.out (by omega) HOK.out true)
                      clear fc5 HS5 HW5 HEV5 HRZ
                      obtain ⟨d0, d1, d2, _⟩ := HEV6.out
                      go_wp2_with fail
                      refine HEN.out.mono ?_
                      rintro x w7 ⟨rfl, g7, cap7, zs7, N7, F7, lo7, hs7, hb7, ho7, hg7⟩
                      have HS7 := hide hs7
                      have HB7 := hide hb7
                      have HW7 : Hid (Only (fun _ => False) W0 w7) := HW6.out.trans ho7 (fun k hk z => by have := HFG.out k z; omega)
                      have HEV7 := hide (HEV6.out.kept ho7 (fun q => by have h1 := HFG.out _ q; have h2 := HWB.out; omega))
                      have HFI := hide (sn_finds HS7.out HB7.out (by omega) HOK.out)
                      clear hs7 hb7 ho7 hg7 HS6 HW6 HEV6 HEN d0 d1 d2
                      obtain ⟨d0, d1, d2, _⟩ := HEV7.out
                      go_wp2_with fail
                      refine HFI.out.mono ?_
                      rintro x w8 ⟨j8, rfl, hj, ho⟩
                      have HS8 := hide (HS7.out.more ho)
                      have HW8 := hide (o2 HW7.out ho)
                      have HEV8 := hide (HEV7.out.more ho)
                      have hin : e ∈ (F7 j8).es := (HS8.out.fs.cont j8 hj.1 hj.2.1 e).2 ⟨.inr rfl, hj.2.2.1, hj.2.2.2⟩
                      obtain ⟨z, hjl, hz, hlv, hnd, hrg⟩ := HS8.out.leave HB7.out (by omega) HOK.out hj.1 hj.2.1
                      rw [lvV_in hin] at hlv
                      have HLV8 := hide hlv
                      have HRG8 := hide hrg
                      unfold Pz.ar at HLV8
                      have hk0 : ¬ (j8 : Int) < 1 := by have := hj.1.1; omega
                      have hk1 : (1 : Int) ≤ (j8 : Int) := by omega
                      have fc8 := HS8.out.fm.cell
                      have hlen := HS8.out.fz.len
                      have hnum := HB7.out.num
                      obtain ⟨n8, hn⟩ : ∃ n, zs7.length = n := ⟨_, rfl⟩
                      rw [hn] at fc8
                      have hjn8 : j8 < n8 := by omega
                      have hk2 : ¬ (n8 : Int) ≤ (j8 : Int) := by omega
                      have hk3 : (j8 : Int) < (n8 : Int) := by omega
                      have hn98 : n8 ≤ 9999 := by omega
                      have HFB8 : Hid (f < w8.heap.size) := HS8.out.fm.flt
                      clear ho hlv hnd hrg hz hjl hj hn hlen hnum hin d0 d1 d2 HS7 HW7 HEV7 HFI
                      go_upto_region 26 with fail
                      go_cut [18, 19] (fun x y wx => ∃ b, x = .pointer (some ⟨b, 0, none⟩) ∧ y = .int .i64 0 ∧ Hid (Rz w8 wx b ⟨4, (j8 : Int), e.enc, none, 0, 0⟩))
                      case first =>
                        as_aux_lemma =>
                          -- {r26
                          refine wp_region_noPanic ?_
                          refine wp_region_held_drew (S := fun W => Only (fun _ => False) w8 W) (by kernel_rfl) (Only.drew _ _) (fun hHeld => ?_)
                          refine wpAnyH_take (i := 0) (oi := { dst := some 166, op := Op.move (Operand.tmp 5), type := 49, pos := "law.go:290", after := #[], guard := none }) (v := .pointer (some ⟨f, 0, none⟩)) rfl (by kernel_rfl) (by kernel_rfl) (by kernel_rfl) (fun _ _ _ h => h) (Or.inl ⟨by rfl, fun w' hSw => by clear hSw; go_simp⟩) (by assumption) ?_
                          simp only [Act.put, List.setIfInBounds_toArray, List.set_cons_zero, List.set_cons_succ]
                          refine wpAnyH_take (i := 4) (oi := { dst := some 170, op := Op.move (Operand.tmp 11), type := 3, pos := "law.go:290", after := #[], guard := none }) (v := .int .i64 (j8 : Int)) rfl (by kernel_rfl) (by kernel_rfl) (by kernel_rfl) (fun _ _ _ h => h) (Or.inl ⟨by rfl, fun w' hSw => by clear hSw; go_simp⟩) (by assumption) ?_
                          simp only [Act.put, List.setIfInBounds_toArray, List.set_cons_zero, List.set_cons_succ]
                          refine wpAnyH_take (i := 7) (oi := { dst := some 173, op := Op.move (Operand.tmp 11), type := 3, pos := "law.go:290", after := #[], guard := none }) (v := .int .i64 (j8 : Int)) rfl (by kernel_rfl) (by kernel_rfl) (by kernel_rfl) (fun _ _ _ h => h) (Or.inl ⟨by rfl, fun w' hSw => by clear hSw; go_simp⟩) (by assumption) ?_
                          simp only [Act.put, List.setIfInBounds_toArray, List.set_cons_zero, List.set_cons_succ]
                          refine wpAnyH_take (i := 8) (oi := { dst := some 174, op := Op.load 41 (Operand.tmp 3), type := 41, pos := "law.go:290", after := #[], guard := none }) (v := .agg #[.string e.key, .int .i64 e.page, .int .i64 e.slot]) rfl (by kernel_rfl) (by kernel_rfl) (by kernel_rfl) (fun _ _ _ h => h) (yieldsIf_load_ev (by rfl) _ rfl rfl (fun W hW => HEV8.out.more hW)) (by assumption) ?_
                          simp only [Act.put, List.setIfInBounds_toArray, List.set_cons_zero, List.set_cons_succ]
                          refine wpAnyH_take (i := 1) (oi := { dst := some 167, op := Op.nilCheck (Operand.tmp 166), type := 0, pos := "law.go:290", after := #[{ on := 0, ground := Ground.data }], guard := none }) (v := .pointer (some ⟨f, 0, none⟩)) rfl (by kernel_rfl) (by kernel_rfl) (by kernel_rfl) (fun _ _ _ h => h) (Or.inl ⟨by rfl, fun w' hSw => by clear hSw; go_simp⟩) (by assumption) ?_
                          simp only [Act.put, List.setIfInBounds_toArray, List.set_cons_zero, List.set_cons_succ]
                          refine wpAnyH_take (i := 2) (oi := { dst := some 168, op := Op.fieldAddr 53 (Operand.tmp 167) 0, type := 0, pos := "law.go:290", after := #[{ on := 1, ground := Ground.data }], guard := none }) (v := .pointer (some ⟨f, 0, none⟩)) rfl (by kernel_rfl) (by kernel_rfl) (by kernel_rfl) (fun _ _ _ h => h) (Or.inl ⟨by rfl, fun w' hSw => by clear hSw; go_simp⟩) (by assumption) ?_
                          simp only [Act.put, List.setIfInBounds_toArray, List.set_cons_zero, List.set_cons_succ]
                          refine wpAnyH_take (i := 3) (oi := { dst := some 169, op := Op.load 51 (Operand.tmp 168), type := 51, pos := "law.go:290", after := #[{ on := 2, ground := Ground.data }], guard := none }) (v := .slice (some ⟨g7, 0, none⟩) n8 cap7) rfl (by kernel_rfl) (by kernel_rfl) (by kernel_rfl) (fun _ _ _ h => h) (yieldsIf_load_cell (by rfl) 51 _ rfl _ rfl (fun W hW => (hW.cell (p := ⟨f, 0, none⟩) HFB8.out (fun h => h)).trans fc8) (fun W hc => ld_pages hc)) (by assumption) ?_
                          simp only [Act.put, List.setIfInBounds_toArray, List.set_cons_zero, List.set_cons_succ]
                          refine wpAnyH_take (i := 5) (oi := { dst := some 171, op := Op.indexAddr 51 (Operand.tmp 169) (Operand.tmp 170), type := 0, pos := "law.go:290", after := #[{ on := 3, ground := Ground.data }, { on := 4, ground := Ground.data }], guard := none }) (v := .pointer (some ⟨g7, j8 * 6, none⟩)) rfl (by kernel_rfl) (by kernel_rfl) (by kernel_rfl) (fun _ _ _ h => h) (Or.inl ⟨by rfl, fun w' hSw => by clear hSw; go_simp⟩) (by assumption) ?_
                          simp only [Act.put, List.setIfInBounds_toArray, List.set_cons_zero, List.set_cons_succ]
                          refine wpAnyH_take (i := 6) (oi := { dst := some 172, op := Op.load 24 (Operand.tmp 171), type := 24, pos := "law.go:290", after := #[{ on := 5, ground := Ground.data }], guard := none }) (v := .agg #[.int .i64 z.p.lsn, .int .i64 z.p.kind, .int .i64 z.p.level, .int .i64 z.p.right, .string z.p.high, .slice z.ao z.p.items.length z.cp]) rfl (by kernel_rfl) (by kernel_rfl) (by kernel_rfl) (fun _ _ _ h => h) (yieldsIf_load_pz (by rfl) _ rfl rfl (fun W hW => HRG8.out.more hW)) (by assumption) ?_
                          simp only [Act.put, List.setIfInBounds_toArray, List.set_cons_zero, List.set_cons_succ]
                          refine wpAnyH_ready (rs := [9, 13]) (by kernel_rfl) (by simp) ?_
                          refine AllReadyH.cons (o := { dst := some 175, op := Op.call { callee := Callee.value (Operand.func 21), args := #[Operand.tmp 172, Operand.tmp 173, Operand.tmp 174], argTypes := #[24, 3, 41] }, type := 37, pos := "law.go:290", after := #[{ on := 6, ground := Ground.data }, { on := 7, ground := Ground.data }, { on := 8, ground := Ground.data }], guard := none }) rfl (fun K hK => ?_) (AllReadyH.cons (o := { dst := some 18, op := Op.alloc 36, type := 0, pos := "law.go:290", after := #[], guard := none }) rfl (fun K hK => ?_) (AllReadyH.nil))
                          · go_simp
                            refine (HLV8.out _ (hHeld)).mono ?_
                            rintro x x1 ⟨rfl, hox⟩
                            have HX1 := hide (o2 hHeld hox)
                            clear hox
                            refine hK.out _ _ (HX1.out) (fun hHeld => ?_)
                            clear hK K
                            try simp only [Act.put, List.setIfInBounds_toArray, List.set_cons_zero, List.set_cons_succ]
                            refine wpAnyH_take (i := 10) (oi := { dst := some 165, op := Op.move (Operand.tmp 175), type := 37, pos := "law.go:290", after := #[{ on := 9, ground := Ground.data }], guard := none }) (v := .tuple #[.agg #[.int .i64 0, .int .i64 0, .int .i64 0, .int .u8 4, .int .i64 0, .int .i64 (j8 : Int), .int .i64 0, .int .i64 0, .int .i64 0, .int .i64 0, .string e.enc, .slice none 0 0, .slice none 0 0, .slice none 0 0, .slice none 0 0, .slice none 0 0], .int .i64 0]) rfl (by kernel_rfl) (by kernel_rfl) (by kernel_rfl) (fun _ _ _ h => h) (Or.inl ⟨by rfl, fun w' hSw => by clear hSw; go_simp⟩) (by assumption) ?_
                            simp only [Act.put, List.setIfInBounds_toArray, List.set_cons_zero, List.set_cons_succ]
                            refine wpAnyH_take (i := 11) (oi := { dst := some 176, op := Op.extract (Operand.tmp 165) 0, type := 36, pos := "law.go:290", after := #[{ on := 10, ground := Ground.data }], guard := none }) (v := .agg #[.int .i64 0, .int .i64 0, .int .i64 0, .int .u8 4, .int .i64 0, .int .i64 (j8 : Int), .int .i64 0, .int .i64 0, .int .i64 0, .int .i64 0, .string e.enc, .slice none 0 0, .slice none 0 0, .slice none 0 0, .slice none 0 0, .slice none 0 0]) rfl (by kernel_rfl) (by kernel_rfl) (by kernel_rfl) (fun _ _ _ h => h) (Or.inl ⟨by rfl, fun w' hSw => by clear hSw; go_simp⟩) (by assumption) ?_
                            simp only [Act.put, List.setIfInBounds_toArray, List.set_cons_zero, List.set_cons_succ]
                            refine wpAnyH_take (i := 12) (oi := { dst := some 177, op := Op.extract (Operand.tmp 165) 1, type := 28, pos := "law.go:290", after := #[{ on := 10, ground := Ground.data }, { on := 14, ground := Ground.gcOnly Departure.lateStores }], guard := none }) (v := .int .i64 0) rfl (by kernel_rfl) (by kernel_rfl) (by kernel_rfl) (fun _ _ _ h => h) (Or.inl ⟨by rfl, fun w' hSw => by clear hSw; go_simp⟩) (by assumption) ?_
                            simp only [Act.put, List.setIfInBounds_toArray, List.set_cons_zero, List.set_cons_succ]
                            refine wpAnyH_ready (rs := [13]) (by kernel_rfl) (by simp) ?_
                            refine AllReadyH.cons (o := { dst := some 18, op := Op.alloc 36, type := 0, pos := "law.go:290", after := #[], guard := none }) rfl (fun K hK => ?_) (AllReadyH.nil)
                            go_simp
                            have HRB := hide (Rg.new x1 Br.none.cells 36)
                            have HX2 := hide (o2 HX1.out (onlyA x1 (.cells Br.none.cells 36)))
                            refine hK.out _ _ (HX2.out) (fun hHeld => ?_)
                            clear hK K
                            try simp only [Act.put, List.setIfInBounds_toArray, List.set_cons_zero, List.set_cons_succ]
                            refine wpAnyH_ready (rs := [14]) (by kernel_rfl) (by simp) ?_
                            refine AllReadyH.cons (o := { dst := none, op := Op.store 36 (Operand.tmp 18) (Operand.tmp 176), type := 0, pos := "law.go:290", after := #[{ on := 13, ground := Ground.data }, { on := 11, ground := Ground.data }, { on := 9, ground := Ground.chain }, { on := 0, ground := Ground.phase }, { on := 1, ground := Ground.phase }, { on := 2, ground := Ground.phase }, { on := 3, ground := Ground.phase }, { on := 4, ground := Ground.phase }, { on := 5, ground := Ground.phase }, { on := 6, ground := Ground.phase }, { on := 7, ground := Ground.phase }, { on := 8, ground := Ground.phase }, { on := 9, ground := Ground.phase }, { on := 10, ground := Ground.phase }, { on := 11, ground := Ground.phase }, { on := 12, ground := Ground.textOnly Departure.lateStores }, { on := 13, ground := Ground.phase }], guard := none }) rfl (fun K hK => ?_) (AllReadyH.nil)
                            refine wp_store_mid 36 (.tmp 18) (.tmp 176) rfl (x1.heap.size) 0 (Br.cells ⟨4, (j8 : Int), e.enc, none, 0, 0⟩) rfl rfl (by exact HRB.out.there) Tryz.sizeRecB (by simp [Value.oneCell']) ?_
                            have HRZ := hide (Rz.of ⟨4, (j8 : Int), e.enc, none, 0, 0⟩ HRB.out HX2.out HX1.out.size)
                            refine hK.out _ _ (HRZ.out.only) (fun hHeld => ?_)
                            clear hK K
                            simp only [Act.put]
                            refine wpAnyH_take (i := 15) (oi := { dst := some 19, op := Op.assign (Operand.tmp 177), type := 28, pos := "law.go:290", after := #[{ on := 12, ground := Ground.data }, { on := 14, ground := Ground.chain }, { on := 0, ground := Ground.phase }, { on := 1, ground := Ground.phase }, { on := 2, ground := Ground.phase }, { on := 3, ground := Ground.phase }, { on := 4, ground := Ground.phase }, { on := 5, ground := Ground.phase }, { on := 6, ground := Ground.phase }, { on := 7, ground := Ground.phase }, { on := 8, ground := Ground.phase }, { on := 9, ground := Ground.phase }, { on := 10, ground := Ground.phase }, { on := 11, ground := Ground.phase }, { on := 12, ground := Ground.phase }, { on := 13, ground := Ground.phase }, { on := 14, ground := Ground.phase }], guard := none }) (v := .int .i64 0) rfl (by kernel_rfl) (by kernel_rfl) (by kernel_rfl) (fun _ _ _ h => h) (Or.inl ⟨by rfl, fun w' hSw => by clear hSw; go_simp⟩) (by assumption) ?_
                            simp only [Act.put, List.setIfInBounds_toArray, List.set_cons_zero, List.set_cons_succ]
                            refine wpAnyH_done (by kernel_rfl) ?_ _
                            refine NoPanic.normal ?_
                            go_wp2_with fail
                            go_meet
                            exact ⟨_, rfl, rfl, HRZ⟩
                          · go_simp
                            have HRA : Hid (Rg ((w8.alloc (.cells Br.none.cells 36)).drew) w8.heap.size 0 Br.none.cl) := (Rg.new w8 Br.none.cells 36).more (Only.drew _ _)
                            have HXA : Hid (Only (fun _ => False) w8 ((w8.alloc (.cells Br.none.cells 36)).drew)) := o2 (onlyA _ _) (Only.drew _ _)
                            refine hK.out _ _ (HXA.out) (fun hHeld => ?_)
                            clear hK K
                            try simp only [Act.put, List.setIfInBounds_toArray, List.set_cons_zero, List.set_cons_succ]
                            refine wpAnyH_ready (rs := [9]) (by kernel_rfl) (by simp) ?_
                            refine AllReadyH.cons (o := { dst := some 175, op := Op.call { callee := Callee.value (Operand.func 21), args := #[Operand.tmp 172, Operand.tmp 173, Operand.tmp 174], argTypes := #[24, 3, 41] }, type := 37, pos := "law.go:290", after := #[{ on := 6, ground := Ground.data }, { on := 7, ground := Ground.data }, { on := 8, ground := Ground.data }], guard := none }) rfl (fun K hK => ?_) (AllReadyH.nil)
                            go_simp
                            refine (HLV8.out _ (hHeld)).mono ?_
                            rintro x x1 ⟨rfl, hox⟩
                            have HX1 := hide (o2 hHeld hox)
                            have HRB := hide (HRA.out.more hox)
                            have HX2 := hide HX1.out
                            clear hox
                            refine hK.out _ _ (HX1.out) (fun hHeld => ?_)
                            clear hK K
                            try simp only [Act.put, List.setIfInBounds_toArray, List.set_cons_zero, List.set_cons_succ]
                            refine wpAnyH_take (i := 10) (oi := { dst := some 165, op := Op.move (Operand.tmp 175), type := 37, pos := "law.go:290", after := #[{ on := 9, ground := Ground.data }], guard := none }) (v := .tuple #[.agg #[.int .i64 0, .int .i64 0, .int .i64 0, .int .u8 4, .int .i64 0, .int .i64 (j8 : Int), .int .i64 0, .int .i64 0, .int .i64 0, .int .i64 0, .string e.enc, .slice none 0 0, .slice none 0 0, .slice none 0 0, .slice none 0 0, .slice none 0 0], .int .i64 0]) rfl (by kernel_rfl) (by kernel_rfl) (by kernel_rfl) (fun _ _ _ h => h) (Or.inl ⟨by rfl, fun w' hSw => by clear hSw; go_simp⟩) (by assumption) ?_
                            simp only [Act.put, List.setIfInBounds_toArray, List.set_cons_zero, List.set_cons_succ]
                            refine wpAnyH_take (i := 11) (oi := { dst := some 176, op := Op.extract (Operand.tmp 165) 0, type := 36, pos := "law.go:290", after := #[{ on := 10, ground := Ground.data }], guard := none }) (v := .agg #[.int .i64 0, .int .i64 0, .int .i64 0, .int .u8 4, .int .i64 0, .int .i64 (j8 : Int), .int .i64 0, .int .i64 0, .int .i64 0, .int .i64 0, .string e.enc, .slice none 0 0, .slice none 0 0, .slice none 0 0, .slice none 0 0, .slice none 0 0]) rfl (by kernel_rfl) (by kernel_rfl) (by kernel_rfl) (fun _ _ _ h => h) (Or.inl ⟨by rfl, fun w' hSw => by clear hSw; go_simp⟩) (by assumption) ?_
                            simp only [Act.put, List.setIfInBounds_toArray, List.set_cons_zero, List.set_cons_succ]
                            refine wpAnyH_take (i := 12) (oi := { dst := some 177, op := Op.extract (Operand.tmp 165) 1, type := 28, pos := "law.go:290", after := #[{ on := 10, ground := Ground.data }, { on := 14, ground := Ground.gcOnly Departure.lateStores }], guard := none }) (v := .int .i64 0) rfl (by kernel_rfl) (by kernel_rfl) (by kernel_rfl) (fun _ _ _ h => h) (Or.inl ⟨by rfl, fun w' hSw => by clear hSw; go_simp⟩) (by assumption) ?_
                            simp only [Act.put, List.setIfInBounds_toArray, List.set_cons_zero, List.set_cons_succ]
                            refine wpAnyH_ready (rs := [14]) (by kernel_rfl) (by simp) ?_
                            refine AllReadyH.cons (o := { dst := none, op := Op.store 36 (Operand.tmp 18) (Operand.tmp 176), type := 0, pos := "law.go:290", after := #[{ on := 13, ground := Ground.data }, { on := 11, ground := Ground.data }, { on := 9, ground := Ground.chain }, { on := 0, ground := Ground.phase }, { on := 1, ground := Ground.phase }, { on := 2, ground := Ground.phase }, { on := 3, ground := Ground.phase }, { on := 4, ground := Ground.phase }, { on := 5, ground := Ground.phase }, { on := 6, ground := Ground.phase }, { on := 7, ground := Ground.phase }, { on := 8, ground := Ground.phase }, { on := 9, ground := Ground.phase }, { on := 10, ground := Ground.phase }, { on := 11, ground := Ground.phase }, { on := 12, ground := Ground.textOnly Departure.lateStores }, { on := 13, ground := Ground.phase }], guard := none }) rfl (fun K hK => ?_) (AllReadyH.nil)
                            refine wp_store_mid 36 (.tmp 18) (.tmp 176) rfl (w8.heap.size) 0 (Br.cells ⟨4, (j8 : Int), e.enc, none, 0, 0⟩) rfl rfl (by exact HRB.out.there) Tryz.sizeRecB (by simp [Value.oneCell']) ?_
                            have HRZ := hide (Rz.of ⟨4, (j8 : Int), e.enc, none, 0, 0⟩ HRB.out HX2.out (Nat.le_refl _))
                            refine hK.out _ _ (HRZ.out.only) (fun hHeld => ?_)
                            clear hK K
                            simp only [Act.put]
                            refine wpAnyH_take (i := 15) (oi := { dst := some 19, op := Op.assign (Operand.tmp 177), type := 28, pos := "law.go:290", after := #[{ on := 12, ground := Ground.data }, { on := 14, ground := Ground.chain }, { on := 0, ground := Ground.phase }, { on := 1, ground := Ground.phase }, { on := 2, ground := Ground.phase }, { on := 3, ground := Ground.phase }, { on := 4, ground := Ground.phase }, { on := 5, ground := Ground.phase }, { on := 6, ground := Ground.phase }, { on := 7, ground := Ground.phase }, { on := 8, ground := Ground.phase }, { on := 9, ground := Ground.phase }, { on := 10, ground := Ground.phase }, { on := 11, ground := Ground.phase }, { on := 12, ground := Ground.phase }, { on := 13, ground := Ground.phase }, { on := 14, ground := Ground.phase }], guard := none }) (v := .int .i64 0) rfl (by kernel_rfl) (by kernel_rfl) (by kernel_rfl) (fun _ _ _ h => h) (Or.inl ⟨by rfl, fun w' hSw => by clear hSw; go_simp⟩) (by assumption) ?_
                            simp only [Act.put, List.setIfInBounds_toArray, List.set_cons_zero, List.set_cons_succ]
                            refine wpAnyH_done (by kernel_rfl) ?_ _
                            refine NoPanic.normal ?_
                            go_wp2_with fail
                            go_meet
                            exact ⟨_, rfl, rfl, HRZ⟩
                          -- r26}
                      case rest =>
                        as_aux_lemma =>
                          obtain ⟨b8, rfl, rfl, HRZ8⟩ := hcut
                          have HW9 := hide (o2 HW8.out HRZ8.out.only)
                          go_wp2_with fail
                          refine (HAW.out _).mono ?_
                          rintro x w9 ⟨rfl, ho⟩
                          have HO9 := hide (o2 (o2 HO.out HW9.out) ho)
                          clear ho
                          go_wp2_with fail
                          go_ret
                          exact ⟨rfl, HO9.out⟩
end Go.Proofs.YthjjkhacniebiaaGreat
