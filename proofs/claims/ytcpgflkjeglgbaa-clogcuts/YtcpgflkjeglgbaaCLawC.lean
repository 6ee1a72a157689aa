/- Walk of ClogCuts. -/
import Derived.Test.YtcpgflkjeglgbaaCLawK
namespace Go.Proofs.Ytcpgflkjeglgbaa
open Go.RowKit

theorem ring_inj {m f : Int} (hf : Idd m f) {a b : Nat} (ha : (a : Int) < m) (hb : (b : Int) < m) (h : xadd m f a = xadd m f b) : a = b := by
  rw [ring_on hf (by omega) ha, ring_on hf (by omega) hb] at h
  have := hf.2
  split at h <;> split at h <;> omega
theorem ring_step {m f : Int} (hf : Idd m f) (k : Nat) : (xadd m f k).tmod m + 1 = xadd m f ((k + 1 : Nat) : Int) := by
  have h1 := xadd_id (n := k) hf
  have hm := hf.1.1
  have e : xadd m f ((k + 1 : Nat) : Int) = xadd m (xadd m f k) 1 := by rw [xadd_xadd hf]; congr 1
  rw [e, ring_on h1 (by omega) (by omega)]
  obtain ⟨x, hx⟩ : ∃ x, xadd m f k = x := ⟨_, rfl⟩
  rw [hx] at h1 ⊢
  have hb := h1.2
  rw [Int.tmod_eq_emod_of_nonneg (by omega)]
  by_cases hxm : x = m
  · subst hxm
    rw [Int.emod_self, if_neg (by omega)]
    omega
  · rw [Int.emod_eq_of_lt (by omega) (by omega), if_pos (by omega)]
theorem ring_zero {m f : Int} (hf : Idd m f) : xadd m f 0 = f := by
  have := hf.2
  have := hf.1.1
  rw [ring_on hf (by omega) (by omega), if_pos (by omega)]
  omega
/-- What is got of the page that was cut, k steps from the old limit on. -/
theorem cut_gets {m f y : Int} {p : Pg} (hp : OkP m p) (hl : lim m (it0 p) = f) (hf : Idd m f) (hy : Idd m y) (k : Nat) (hk : (k : Int) < m) :
    ((k : Int) < xgap m f y → gst m (cutP m p y) (xadd m f k) = 0) ∧ (¬ (k : Int) < xgap m f y → gst m (cutP m p y) (xadd m f k) = gst m p (xadd m f k)) := by
  have hid := xadd_id (n := k) hf
  have hq := hp.cut hy
  have hln : (bl (it1 p)).length = nb m := by rw [bl_len]; exact hp.size
  have hg := xgap_lt hf hy
  have e1 : bl (it1 (cutP m p y)) = clr m (xgap m f y).toNat f (bl (it1 p)) := by rw [← hl]; exact bl_str _
  obtain ⟨a1, a2⟩ := stAt_clr (xgap m f y).toNat f (bl (it1 p)) hf hln (xadd m f k - 1).toNat
  have ej : (((xadd m f k - 1).toNat : Nat) : Int) + 1 = xadd m f k := by have := hid.2; omega
  rw [ej] at a1 a2
  unfold gst
  rw [if_pos (cid_ok hid hq), if_pos (cid_ok hid hp), e1]
  constructor
  · intro h
    exact a1 ⟨k, by omega, rfl⟩
  · intro h
    refine a2 ?_
    rintro ⟨t, ht, e⟩
    have := ring_inj hf (a := t) (b := k) (by omega) hk e
    omega
theorem cut_lim {m y : Int} {p : Pg} (hy : Idd m y) (hp : OkP m p) : fst m (cutP m p y) = y := by
  unfold fst
  rw [if_pos (chk_ok hy.1 (hp.cut hy))]
  exact lim_sev (by have := hy.2; omega) hy.2.2 hy.1.2.1
set_option maxRecDepth 100000 in
set_option maxHeartbeats 800000 in
theorem cuts_bad (w : World) (m fr y : Int) (aO : Option Addr) (n cap : Nat) (hm : I64 m) (hfr : I64 fr) (hM : ¬ Idd m fr) :
    Calls Try.prog 6 #[.int .i64 m, .int .i64 fr, .agg #[.slice aO n cap, .int .i64 y]] w fun e w' => e = .returned (.bool true) ∧ Only (fun _ => False) w w' := by
  have HB := hide (fun W => cblank_err W m fr hm hfr hM)
  have HO := hide (onlyA w (.cells #[.slice aO n cap, .int .i64 y] 49))
  have hm1 := hm.1
  have hm2 := hm.2
  have hf1 := hfr.1
  have hf2 := hfr.2
  clear hm hM hfr
  go_enter Try.func6, Try.ntmps6
  go_wp2_with fail
  refine (HB.out _).mono ?_
  rintro e w1 ⟨B1, ao1, cp1, rfl, hS1, hF1, ho, hB1⟩
  simp only [Pg.none] at hS1 hF1 ⊢
  have HO := hide (o2 (o2 HO.out ho) (onlyA w1 (.cells #[.int .i64 0, .int .i64 0, .int .i64 0, .int .i64 0, .string ⟨#[]⟩, .slice ao1 ([] : List ByteArray).length cp1] 24)))
  simp only [List.length_nil] at HO ⊢
  clear hS1 hF1 hB1 ho
  go_wp2_with fail
  refine (cawake_any _).mono ?_
  rintro e w9 ⟨rfl, ho⟩
  have HO := hide (o2 HO.out ho)
  clear ho
  go_wp2_with fail
  go_ret
  exact ⟨rfl, HO.out⟩
set_option maxRecDepth 100000 in
set_option maxHeartbeats 3200000 in
theorem cuts_ok (w : World) (m fr y : Int) (BO : Nat) (aO : Option Addr) (n cap : Nat) (C : Nat → Bool) (X : Nat → Int) (S : Nat → Nat) (hM : Idd m fr) (hy : I64 y) (hI : Ops w BO aO n C X S) :
    Calls Try.prog 6 #[.int .i64 m, .int .i64 fr, .agg #[.slice aO n cap, .int .i64 y]] w fun e w' => e = .returned (.bool true) ∧ Only (fun _ => False) w w' := by
  have HB := hide (fun W => cblank_ok W m fr hM)
  have HK0 := hide (OkP.blank hM)
  have hm1 := hM.1.1
  have hm2 := hM.1.2.1
  have hf1 := hM.2.1
  have hf2 := hM.2.2
  have HIM : Hid (I64 m) := ⟨by omega, by omega⟩
  have HOPS := hide hI
  have hn := hI.len
  have hy1 := hy.1
  have hy2 := hy.2
  have HY := hide hy
  have HM := hide hM
  have HLM : Hid (lim m (it0 (blankP m fr)) = fr) := lim_sev (by omega) (by omega) (by omega)
  obtain ⟨P0, hP0⟩ : ∃ P, blankP m fr = P := ⟨_, rfl⟩
  have HLS : Hid (P0.lsn = 0) := by unfold Hid; rw [← hP0]; rfl
  simp only [hP0] at HB HK0 HLM
  clear hP0 hM hI hy
  go_enter Try.func6, Try.ntmps6
  go_wp2_with fail
  obtain ⟨W0, hW0⟩ : ∃ W, w.alloc (.cells #[.slice aO n cap, .int .i64 y] 49) = W := ⟨_, rfl⟩
  have HO0 : Hid (Only (fun _ => False) w W0) := by unfold Hid; rw [← hW0]; exact onlyA _ _
  have HX0 : Hid (W0.cell? ⟨w.heap.size, 0, none⟩ = some (.slice aO n cap) ∧ W0.cell? ⟨w.heap.size, 1, none⟩ = some (.int .i64 y) ∧ w.heap.size < W0.heap.size) := by
    unfold Hid
    rw [← hW0]
    exact ⟨by simp, by simp, by simp⟩
  rw [hW0]
  clear hW0
  refine (HB.out _).mono ?_
  rintro e w1 ⟨B1, ao1, cp1, rfl, hS1, hF1, ho1, hB1⟩
  have HP := hide (PgB.new hS1 hF1)
  have HOB := hide (o2 ho1 (onlyA w1 (.cells #[.int .i64 P0.lsn, .int .i64 P0.kind, .int .i64 P0.level, .int .i64 P0.right, .string P0.high, .slice ao1 P0.items.length cp1] 24)))
  have HOA := hide (o2 (o2 HO0.out ho1) (onlyA w1 (.cells #[.int .i64 P0.lsn, .int .i64 P0.kind, .int .i64 P0.level, .int .i64 P0.right, .string P0.high, .slice ao1 P0.items.length cp1] 24)))
  have HB1 : Hid (w.heap.size < w1.heap.size) := by unfold Hid; have := ho1.size; have := HX0.out.2.2; omega
  have HNE : Hid (B1 < w1.heap.size) := hS1.lt (by rw [HK0.out.two]; omega)
  clear hS1 hF1 hB1 ho1
  go_upto_region 2 with fail
  obtain ⟨b1, hb1⟩ : ∃ b, w1.heap.size = b := ⟨_, rfl⟩
  obtain ⟨W1, hW1⟩ : ∃ W, w1.alloc (.cells #[.int .i64 P0.lsn, .int .i64 P0.kind, .int .i64 P0.level, .int .i64 P0.right, .string P0.high, .slice ao1 P0.items.length cp1] 24) = W := ⟨_, rfl⟩
  rw [hW1] at HP HOA HOB ⊢
  rw [hb1] at HP HB1 HNE ⊢
  clear hW1 hb1
  have HOW1 := HOA
  have HV0 : Hid (Var m W1 W1 b1 fr P0 B1 ao1 cp1) := ⟨HP.out, by have := HNE.out; omega, HK0.out, HLM.out, HLS.out, Only.refl _ _⟩
  have HBX1 : Hid (w.heap.size < W1.heap.size) := Nat.lt_of_lt_of_le HX0.out.2.2 HOB.out.size
  have HBN : Hid (¬ w.heap.size = b1) := by unfold Hid; have := HB1.out; omega
  have HCX0 : Hid (W1.cell? ⟨w.heap.size, 0, none⟩ = some (.slice aO n cap)) := (HOB.out.cell (p := ⟨w.heap.size, 0, none⟩) HX0.out.2.2 (fun h => h)).trans HX0.out.1
  have HCY0 : Hid (W1.cell? ⟨w.heap.size, 1, none⟩ = some (.int .i64 y)) := (HOB.out.cell (p := ⟨w.heap.size, 1, none⟩) HX0.out.2.2 (fun h => h)).trans HX0.out.2.1
  clear HP HK0 HNE HLS HLM HX0
  go_wp2_with fail
  go_loopw [9] (fun t wr => ∃ (i : Nat) (p : Pg) (B : Nat) (ao : Option Addr) (cp : Nat), i ≤ n ∧ t = .int .i64 (i : Int) ∧ Hid (Var m W1 wr b1 fr p B ao cp)) (fun t _ => n - (intOf t).toNat)
  case atStart => exact ⟨0, _, _, _, _, by omega, rfl, HV0⟩
  case round =>
    obtain ⟨i, p, B, ao, cp, hi, rfl, HV⟩ := hrel
    have HOW : Hid (Only (fun _ => False) w wr) := HOW1.out.trans HV.out.only (fun i hi e => by have := HB1.out; omega)
    have HOPW := hide (HOPS.out.more HOW.out)
    have HCXa : Hid (wr.cell? ⟨w.heap.size, 0, none⟩ = some (.slice aO n cap)) := (HV.out.only.cell (p := ⟨w.heap.size, 0, none⟩) HBX1.out HBN.out).trans HCX0.out
    by_cases hlt : i < n
    · obtain ⟨oO, eO, hcO⟩ := HOPW.out.at_ (by omega)
      subst eO
      have HC1 := hide (hcO i hlt).2.1
      have HC2 := hide (hcO i hlt).2.2
      have HBO := hide (HOPW.out.lt (by omega))
      obtain ⟨wfx, wfs⟩ := HOPW.out.wf i hlt
      have HSETq := hide (fun W (ho : Only (fun _ => False) wr W) => cset_any W m p.lsn p.kind p.level p.right (X i) p.high cp B ao p.items (S i) HIM.out wfx (HV.out.pg.strs.more ho) wfs)
      have e0 : (⟨p.lsn, p.kind, p.level, p.right, p.high, p.items⟩ : Pg) = p := rfl
      simp only [e0] at HSETq
      have HRO := hide (fun h => setR_ok (m := m) (x := X i) (p := p) (s := S i) h)
      have hkb := setC_bd m p (X i) (S i)
      obtain ⟨kc, hkc⟩ : ∃ k, setC m p (X i) (S i) = k := ⟨_, rfl⟩
      obtain ⟨q, hq⟩ : ∃ q, setR m p (X i) (S i) = q := ⟨_, rfl⟩
      simp only [hkc, hq] at HSETq HRO hkb
      have HSET := HSETq
      have wx1 := wfx.1
      have wx2 := wfx.2
      clear hcO hkc hq HSETq e0 wfx
      have hin : (i : Int) < (n : Int) := by omega
      have HCX : Hid (wr.cell? ⟨w.heap.size, 0, none⟩ = some (.slice (some ⟨BO, oO, none⟩) n cap)) := ((HV.out.only.cell (p := ⟨w.heap.size, 0, none⟩) HBX1.out HBN.out).trans (by have := HCX0.out; exact this))
      have HBX : Hid (w.heap.size < wr.heap.size) := Nat.lt_of_lt_of_le HBX1.out HV.out.only.size
      have hcx := HCX.out
      go_upto_region 7 with fail
      clear hcx
      go_cut [10, 11] (fun t u wc => ∃ b5 B5 ao5 cp5, t = .pointer (some ⟨b5, 0, none⟩) ∧ u = .int .i64 kc ∧ Hid (Laid wr wc b5 q B5 ao5 cp5))
      case first =>
        refine wp_region_noPanic ?_
        refine wp_region_held_drew (S := fun W => Only (fun _ => False) wr W) (by kernel_rfl) (Only.drew _ wr) (fun hHeld => ?_)
        refine wpAnyH_take (i := 0) (oi := { dst := some 44, op := Op.move (Operand.tmp 0), type := 3, pos := "law.go:113", after := #[], guard := none }) (v := .int .i64 m) rfl (by kernel_rfl) (by kernel_rfl) (by kernel_rfl) (fun _ _ _ h => h) (Or.inl ⟨by rfl, fun w' hSw => by clear hSw; go_simp⟩) (by assumption) ?_
        simp only [Act.put, List.setIfInBounds_toArray, List.set_cons_zero, List.set_cons_succ]
        refine wpAnyH_take (i := 1) (oi := { dst := some 45, op := Op.load 24 (Operand.tmp 7), type := 24, pos := "law.go:113", after := #[], guard := none }) (v := .agg #[.int .i64 p.lsn, .int .i64 p.kind, .int .i64 p.level, .int .i64 p.right, .string p.high, .slice ao p.items.length cp]) rfl (by kernel_rfl) (by kernel_rfl) (by kernel_rfl) (fun _ _ _ h => h) (yieldsIf_load_page (by rfl) _ rfl _ rfl (fun W hW => (HV.out.pg.more hW).pag)) (by assumption) ?_
        simp only [Act.put, List.setIfInBounds_toArray, List.set_cons_zero, List.set_cons_succ]
        refine wpAnyH_take (i := 2) (oi := { dst := some 46, op := Op.fieldAddr 49 (Operand.tmp 5) 0, type := 0, pos := "law.go:113", after := #[], guard := none }) (v := .pointer (some ⟨w.heap.size, 0, none⟩)) rfl (by kernel_rfl) (by kernel_rfl) (by kernel_rfl) (fun _ _ _ h => h) (Or.inl ⟨by rfl, fun w' hSw => by clear hSw; go_simp⟩) (by assumption) ?_
        simp only [Act.put, List.setIfInBounds_toArray, List.set_cons_zero, List.set_cons_succ]
        refine wpAnyH_take (i := 4) (oi := { dst := some 48, op := Op.move (Operand.tmp 9), type := 3, pos := "law.go:113", after := #[], guard := none }) (v := .int .i64 (i : Int)) rfl (by kernel_rfl) (by kernel_rfl) (by kernel_rfl) (fun _ _ _ h => h) (Or.inl ⟨by rfl, fun w' hSw => by clear hSw; go_simp⟩) (by assumption) ?_
        simp only [Act.put, List.setIfInBounds_toArray, List.set_cons_zero, List.set_cons_succ]
        refine wpAnyH_take (i := 8) (oi := { dst := some 52, op := Op.fieldAddr 49 (Operand.tmp 5) 0, type := 0, pos := "law.go:113", after := #[], guard := none }) (v := .pointer (some ⟨w.heap.size, 0, none⟩)) rfl (by kernel_rfl) (by kernel_rfl) (by kernel_rfl) (fun _ _ _ h => h) (Or.inl ⟨by rfl, fun w' hSw => by clear hSw; go_simp⟩) (by assumption) ?_
        simp only [Act.put, List.setIfInBounds_toArray, List.set_cons_zero, List.set_cons_succ]
        refine wpAnyH_take (i := 10) (oi := { dst := some 54, op := Op.move (Operand.tmp 9), type := 3, pos := "law.go:113", after := #[], guard := none }) (v := .int .i64 (i : Int)) rfl (by kernel_rfl) (by kernel_rfl) (by kernel_rfl) (fun _ _ _ h => h) (Or.inl ⟨by rfl, fun w' hSw => by clear hSw; go_simp⟩) (by assumption) ?_
        simp only [Act.put, List.setIfInBounds_toArray, List.set_cons_zero, List.set_cons_succ]
        refine wpAnyH_take (i := 3) (oi := { dst := some 47, op := Op.load 40 (Operand.tmp 46), type := 40, pos := "law.go:113", after := #[{ on := 2, ground := Ground.data }], guard := none }) (v := .slice (some ⟨BO, oO, none⟩) n cap) rfl (by kernel_rfl) (by kernel_rfl) (by kernel_rfl) (fun _ _ _ h => h) (yieldsIf_load_cell (by rfl) 40 _ rfl _ rfl (fun W hW => (hW.cell (p := ⟨w.heap.size, 0, none⟩) HBX.out (fun h => h)).trans HCX.out) (fun W hc => ld_cops hc)) (by assumption) ?_
        simp only [Act.put, List.setIfInBounds_toArray, List.set_cons_zero, List.set_cons_succ]
        refine wpAnyH_take (i := 9) (oi := { dst := some 53, op := Op.load 40 (Operand.tmp 52), type := 40, pos := "law.go:113", after := #[{ on := 8, ground := Ground.data }], guard := none }) (v := .slice (some ⟨BO, oO, none⟩) n cap) rfl (by kernel_rfl) (by kernel_rfl) (by kernel_rfl) (fun _ _ _ h => h) (yieldsIf_load_cell (by rfl) 40 _ rfl _ rfl (fun W hW => (hW.cell (p := ⟨w.heap.size, 0, none⟩) HBX.out (fun h => h)).trans HCX.out) (fun W hc => ld_cops hc)) (by assumption) ?_
        simp only [Act.put, List.setIfInBounds_toArray, List.set_cons_zero, List.set_cons_succ]
        refine wpAnyH_take (i := 5) (oi := { dst := some 49, op := Op.indexAddr 40 (Operand.tmp 47) (Operand.tmp 48), type := 0, pos := "law.go:113", after := #[{ on := 3, ground := Ground.data }, { on := 4, ground := Ground.data }], guard := none }) (v := .pointer (some ⟨BO, oO + i * 3, none⟩)) rfl (by kernel_rfl) (by kernel_rfl) (by kernel_rfl) (fun _ _ _ h => h) (Or.inl ⟨by rfl, fun w' hSw => by clear hSw; go_simp⟩) (by assumption) ?_
        simp only [Act.put, List.setIfInBounds_toArray, List.set_cons_zero, List.set_cons_succ]
        refine wpAnyH_take (i := 11) (oi := { dst := some 55, op := Op.indexAddr 40 (Operand.tmp 53) (Operand.tmp 54), type := 0, pos := "law.go:113", after := #[{ on := 9, ground := Ground.data }, { on := 10, ground := Ground.data }], guard := none }) (v := .pointer (some ⟨BO, oO + i * 3, none⟩)) rfl (by kernel_rfl) (by kernel_rfl) (by kernel_rfl) (fun _ _ _ h => h) (Or.inl ⟨by rfl, fun w' hSw => by clear hSw; go_simp⟩) (by assumption) ?_
        simp only [Act.put, List.setIfInBounds_toArray, List.set_cons_zero, List.set_cons_succ]
        refine wpAnyH_take (i := 6) (oi := { dst := some 50, op := Op.fieldAddr 27 (Operand.tmp 49) 1, type := 0, pos := "law.go:113", after := #[{ on := 5, ground := Ground.data }], guard := none }) (v := .pointer (some ⟨BO, oO + i * 3 + 1, none⟩)) rfl (by kernel_rfl) (by kernel_rfl) (by kernel_rfl) (fun _ _ _ h => h) (Or.inl ⟨by rfl, fun w' hSw => by clear hSw; go_simp⟩) (by assumption) ?_
        simp only [Act.put, List.setIfInBounds_toArray, List.set_cons_zero, List.set_cons_succ]
        refine wpAnyH_take (i := 12) (oi := { dst := some 56, op := Op.fieldAddr 27 (Operand.tmp 55) 2, type := 0, pos := "law.go:113", after := #[{ on := 11, ground := Ground.data }], guard := none }) (v := .pointer (some ⟨BO, oO + i * 3 + 2, none⟩)) rfl (by kernel_rfl) (by kernel_rfl) (by kernel_rfl) (fun _ _ _ h => h) (Or.inl ⟨by rfl, fun w' hSw => by clear hSw; go_simp⟩) (by assumption) ?_
        simp only [Act.put, List.setIfInBounds_toArray, List.set_cons_zero, List.set_cons_succ]
        refine wpAnyH_take (i := 7) (oi := { dst := some 51, op := Op.load 3 (Operand.tmp 50), type := 3, pos := "law.go:113", after := #[{ on := 6, ground := Ground.data }], guard := none }) (v := .int .i64 (X i)) rfl (by kernel_rfl) (by kernel_rfl) (by kernel_rfl) (fun _ _ _ h => h) (yieldsIf_load_cell (by rfl) 3 _ rfl _ rfl (fun W hW => (hW.cell (p := ⟨BO, oO + i * 3 + 1, none⟩) HBO.out (fun h => h)).trans HC1.out) (fun W hc => ld_int hc)) (by assumption) ?_
        simp only [Act.put, List.setIfInBounds_toArray, List.set_cons_zero, List.set_cons_succ]
        refine wpAnyH_take (i := 13) (oi := { dst := some 57, op := Op.load 25 (Operand.tmp 56), type := 25, pos := "law.go:113", after := #[{ on := 12, ground := Ground.data }], guard := none }) (v := .int .u8 (S i : Int)) rfl (by kernel_rfl) (by kernel_rfl) (by kernel_rfl) (fun _ _ _ h => h) (yieldsIf_load_cell (by rfl) 25 _ rfl _ rfl (fun W hW => (hW.cell (p := ⟨BO, oO + i * 3 + 2, none⟩) HBO.out (fun h => h)).trans HC2.out) (fun W hc => ld_status hc)) (by assumption) ?_
        simp only [Act.put, List.setIfInBounds_toArray, List.set_cons_zero, List.set_cons_succ]
        refine wpAnyH_ready (rs := [14, 18]) (by kernel_rfl) (by simp) ?_
        refine AllReadyH.cons (o := { dst := some 58, op := Op.call { callee := Callee.value (Operand.func 10), args := #[Operand.tmp 44, Operand.tmp 45, Operand.tmp 51, Operand.tmp 57], argTypes := #[3, 24, 3, 25] }, type := 31, pos := "law.go:113", after := #[{ on := 0, ground := Ground.data }, { on := 1, ground := Ground.data }, { on := 7, ground := Ground.data }, { on := 13, ground := Ground.data }], guard := none }) rfl (fun K hK => ?_) (AllReadyH.cons (o := { dst := some 10, op := Op.alloc 24, type := 0, pos := "law.go:113", after := #[], guard := none }) rfl (fun K hK => ?_) (AllReadyH.nil))
        · go_simp
          refine (HSET.out _ (Only.drew _ wr)).mono ?_
          rintro e w5 ⟨B5, ao5, cp5, rfl, hS5, hF5, ho5, hB5⟩
          have HO5 := hide (o2 (Only.drew _ wr) ho5)
          have HL := hide (Laid.first hS5 hF5 HO5.out hB5)
          clear hS5 hF5 ho5 hB5
          refine hK.out _ _ (HO5.out) (fun hHeld => ?_)
          clear hK K
          try simp only [Act.put, List.setIfInBounds_toArray, List.set_cons_zero, List.set_cons_succ]
          refine wpAnyH_take (i := 15) (oi := { dst := some 43, op := Op.move (Operand.tmp 58), type := 31, pos := "law.go:113", after := #[{ on := 14, ground := Ground.data }], guard := none }) (v := .tuple #[.agg #[.int .i64 q.lsn, .int .i64 q.kind, .int .i64 q.level, .int .i64 q.right, .string q.high, .slice ao5 q.items.length cp5], .int .i64 kc]) rfl (by kernel_rfl) (by kernel_rfl) (by kernel_rfl) (fun _ _ _ h => h) (Or.inl ⟨by rfl, fun w' hSw => by clear hSw; go_simp⟩) (by assumption) ?_
          simp only [Act.put, List.setIfInBounds_toArray, List.set_cons_zero, List.set_cons_succ]
          refine wpAnyH_take (i := 16) (oi := { dst := some 59, op := Op.extract (Operand.tmp 43) 0, type := 24, pos := "law.go:113", after := #[{ on := 15, ground := Ground.data }], guard := none }) (v := .agg #[.int .i64 q.lsn, .int .i64 q.kind, .int .i64 q.level, .int .i64 q.right, .string q.high, .slice ao5 q.items.length cp5]) rfl (by kernel_rfl) (by kernel_rfl) (by kernel_rfl) (fun _ _ _ h => h) (Or.inl ⟨by rfl, fun w' hSw => by clear hSw; go_simp⟩) (by assumption) ?_
          simp only [Act.put, List.setIfInBounds_toArray, List.set_cons_zero, List.set_cons_succ]
          refine wpAnyH_take (i := 17) (oi := { dst := some 60, op := Op.extract (Operand.tmp 43) 1, type := 28, pos := "law.go:113", after := #[{ on := 15, ground := Ground.data }, { on := 19, ground := Ground.gcOnly Departure.lateStores }], guard := none }) (v := .int .i64 kc) rfl (by kernel_rfl) (by kernel_rfl) (by kernel_rfl) (fun _ _ _ h => h) (Or.inl ⟨by rfl, fun w' hSw => by clear hSw; go_simp⟩) (by assumption) ?_
          simp only [Act.put, List.setIfInBounds_toArray, List.set_cons_zero, List.set_cons_succ]
          refine wpAnyH_ready (rs := [18]) (by kernel_rfl) (by simp) ?_
          refine AllReadyH.cons (o := { dst := some 10, op := Op.alloc 24, type := 0, pos := "law.go:113", after := #[], guard := none }) rfl (fun K hK => ?_) (AllReadyH.nil)
          go_simp
          refine hK.out _ _ (o2 HO5.out (onlyA _ _)) (fun hHeld => ?_)
          clear hK K
          try simp only [Act.put, List.setIfInBounds_toArray, List.set_cons_zero, List.set_cons_succ]
          refine wpAnyH_ready (rs := [19]) (by kernel_rfl) (by simp) ?_
          refine AllReadyH.cons (o := { dst := none, op := Op.store 24 (Operand.tmp 10) (Operand.tmp 59), type := 0, pos := "law.go:113", after := #[{ on := 18, ground := Ground.data }, { on := 16, ground := Ground.data }, { on := 14, ground := Ground.chain }, { on := 0, ground := Ground.phase }, { on := 1, ground := Ground.phase }, { on := 2, ground := Ground.phase }, { on := 3, ground := Ground.phase }, { on := 4, ground := Ground.phase }, { on := 5, ground := Ground.phase }, { on := 6, ground := Ground.phase }, { on := 7, ground := Ground.phase }, { on := 8, ground := Ground.phase }, { on := 9, ground := Ground.phase }, { on := 10, ground := Ground.phase }, { on := 11, ground := Ground.phase }, { on := 12, ground := Ground.phase }, { on := 13, ground := Ground.phase }, { on := 14, ground := Ground.phase }, { on := 15, ground := Ground.phase }, { on := 16, ground := Ground.phase }, { on := 17, ground := Ground.textOnly Departure.lateStores }, { on := 18, ground := Ground.phase }], guard := none }) rfl (fun K hK => ?_) (AllReadyH.nil)
          go_simp
          refine hK.out _ _ (HL.out.only) (fun hHeld => ?_)
          clear hK K
          try simp only [Act.put, List.setIfInBounds_toArray, List.set_cons_zero, List.set_cons_succ]
          refine wpAnyH_take (i := 20) (oi := { dst := some 11, op := Op.assign (Operand.tmp 60), type := 28, pos := "law.go:113", after := #[{ on := 17, ground := Ground.data }, { on := 19, ground := Ground.chain }, { on := 0, ground := Ground.phase }, { on := 1, ground := Ground.phase }, { on := 2, ground := Ground.phase }, { on := 3, ground := Ground.phase }, { on := 4, ground := Ground.phase }, { on := 5, ground := Ground.phase }, { on := 6, ground := Ground.phase }, { on := 7, ground := Ground.phase }, { on := 8, ground := Ground.phase }, { on := 9, ground := Ground.phase }, { on := 10, ground := Ground.phase }, { on := 11, ground := Ground.phase }, { on := 12, ground := Ground.phase }, { on := 13, ground := Ground.phase }, { on := 14, ground := Ground.phase }, { on := 15, ground := Ground.phase }, { on := 16, ground := Ground.phase }, { on := 17, ground := Ground.phase }, { on := 18, ground := Ground.phase }, { on := 19, ground := Ground.phase }], guard := none }) (v := .int .i64 kc) rfl (by kernel_rfl) (by kernel_rfl) (by kernel_rfl) (fun _ _ _ h => h) (Or.inl ⟨by rfl, fun w' hSw => by clear hSw; go_simp⟩) (by assumption) ?_
          simp only [Act.put, List.setIfInBounds_toArray, List.set_cons_zero, List.set_cons_succ]
          refine wpAnyH_done (by kernel_rfl) ?_ _
          refine NoPanic.normal ?_
          go_wp2_with fail
          go_meet
          exact ⟨_, B5, ao5, cp5, rfl, rfl, HL⟩
        · go_simp
          have HSA : Hid (Only (fun _ => False) wr ((wr.alloc (.cells #[.int .i64 0, .int .i64 0, .int .i64 0, .int .i64 0, .string ⟨#[]⟩, .slice none 0 0] 24)).drew)) := o2 (onlyA _ _) (Only.drew _ _)
          have HZA : Hid (Pag ((wr.alloc (.cells #[.int .i64 0, .int .i64 0, .int .i64 0, .int .i64 0, .string ⟨#[]⟩, .slice none 0 0] 24)).drew) wr.heap.size (.int .i64 0) (.int .i64 0) (.int .i64 0) (.int .i64 0) (.string ⟨#[]⟩) (.slice none 0 0)) := (Pag.zero wr).more (Only.drew _ _)
          refine hK.out _ _ (HSA.out) (fun hHeld => ?_)
          clear hK K
          try simp only [Act.put, List.setIfInBounds_toArray, List.set_cons_zero, List.set_cons_succ]
          refine wpAnyH_ready (rs := [14]) (by kernel_rfl) (by simp) ?_
          refine AllReadyH.cons (o := { dst := some 58, op := Op.call { callee := Callee.value (Operand.func 10), args := #[Operand.tmp 44, Operand.tmp 45, Operand.tmp 51, Operand.tmp 57], argTypes := #[3, 24, 3, 25] }, type := 31, pos := "law.go:113", after := #[{ on := 0, ground := Ground.data }, { on := 1, ground := Ground.data }, { on := 7, ground := Ground.data }, { on := 13, ground := Ground.data }], guard := none }) rfl (fun K hK => ?_) (AllReadyH.nil)
          go_simp
          refine (HSET.out _ HSA.out).mono ?_
          rintro e w5 ⟨B5, ao5, cp5, rfl, hS5, hF5, ho5, hB5⟩
          have HZ := hide (HZA.out.more ho5)
          obtain ⟨z0, z1, z2, z3, z4, z5, y0, y1, y2, y3, y4, y5, zl⟩ := HZ.out
          have HO5 := hide (o2 HSA.out ho5)
          have HB5 : Hid (0 < q.items.length → wr.heap.size < B5) := fun h => by have := hB5 h; have := HZA.out.lt; omega
          have HL := hide (Laid.then HZ.out hS5 hF5 HO5.out (Nat.le_refl _) HB5.out)
          clear hS5 hF5 ho5 hB5
          refine hK.out _ _ (HO5.out) (fun hHeld => ?_)
          clear hK K
          try simp only [Act.put, List.setIfInBounds_toArray, List.set_cons_zero, List.set_cons_succ]
          refine wpAnyH_take (i := 15) (oi := { dst := some 43, op := Op.move (Operand.tmp 58), type := 31, pos := "law.go:113", after := #[{ on := 14, ground := Ground.data }], guard := none }) (v := .tuple #[.agg #[.int .i64 q.lsn, .int .i64 q.kind, .int .i64 q.level, .int .i64 q.right, .string q.high, .slice ao5 q.items.length cp5], .int .i64 kc]) rfl (by kernel_rfl) (by kernel_rfl) (by kernel_rfl) (fun _ _ _ h => h) (Or.inl ⟨by rfl, fun w' hSw => by clear hSw; go_simp⟩) (by assumption) ?_
          simp only [Act.put, List.setIfInBounds_toArray, List.set_cons_zero, List.set_cons_succ]
          refine wpAnyH_take (i := 16) (oi := { dst := some 59, op := Op.extract (Operand.tmp 43) 0, type := 24, pos := "law.go:113", after := #[{ on := 15, ground := Ground.data }], guard := none }) (v := .agg #[.int .i64 q.lsn, .int .i64 q.kind, .int .i64 q.level, .int .i64 q.right, .string q.high, .slice ao5 q.items.length cp5]) rfl (by kernel_rfl) (by kernel_rfl) (by kernel_rfl) (fun _ _ _ h => h) (Or.inl ⟨by rfl, fun w' hSw => by clear hSw; go_simp⟩) (by assumption) ?_
          simp only [Act.put, List.setIfInBounds_toArray, List.set_cons_zero, List.set_cons_succ]
          refine wpAnyH_take (i := 17) (oi := { dst := some 60, op := Op.extract (Operand.tmp 43) 1, type := 28, pos := "law.go:113", after := #[{ on := 15, ground := Ground.data }, { on := 19, ground := Ground.gcOnly Departure.lateStores }], guard := none }) (v := .int .i64 kc) rfl (by kernel_rfl) (by kernel_rfl) (by kernel_rfl) (fun _ _ _ h => h) (Or.inl ⟨by rfl, fun w' hSw => by clear hSw; go_simp⟩) (by assumption) ?_
          simp only [Act.put, List.setIfInBounds_toArray, List.set_cons_zero, List.set_cons_succ]
          refine wpAnyH_ready (rs := [19]) (by kernel_rfl) (by simp) ?_
          refine AllReadyH.cons (o := { dst := none, op := Op.store 24 (Operand.tmp 10) (Operand.tmp 59), type := 0, pos := "law.go:113", after := #[{ on := 18, ground := Ground.data }, { on := 16, ground := Ground.data }, { on := 14, ground := Ground.chain }, { on := 0, ground := Ground.phase }, { on := 1, ground := Ground.phase }, { on := 2, ground := Ground.phase }, { on := 3, ground := Ground.phase }, { on := 4, ground := Ground.phase }, { on := 5, ground := Ground.phase }, { on := 6, ground := Ground.phase }, { on := 7, ground := Ground.phase }, { on := 8, ground := Ground.phase }, { on := 9, ground := Ground.phase }, { on := 10, ground := Ground.phase }, { on := 11, ground := Ground.phase }, { on := 12, ground := Ground.phase }, { on := 13, ground := Ground.phase }, { on := 14, ground := Ground.phase }, { on := 15, ground := Ground.phase }, { on := 16, ground := Ground.phase }, { on := 17, ground := Ground.textOnly Departure.lateStores }, { on := 18, ground := Ground.phase }], guard := none }) rfl (fun K hK => ?_) (AllReadyH.nil)
          go_simp
          refine hK.out _ _ (HL.out.only) (fun hHeld => ?_)
          clear hK K
          try simp only [Act.put, List.setIfInBounds_toArray, List.set_cons_zero, List.set_cons_succ]
          refine wpAnyH_take (i := 20) (oi := { dst := some 11, op := Op.assign (Operand.tmp 60), type := 28, pos := "law.go:113", after := #[{ on := 17, ground := Ground.data }, { on := 19, ground := Ground.chain }, { on := 0, ground := Ground.phase }, { on := 1, ground := Ground.phase }, { on := 2, ground := Ground.phase }, { on := 3, ground := Ground.phase }, { on := 4, ground := Ground.phase }, { on := 5, ground := Ground.phase }, { on := 6, ground := Ground.phase }, { on := 7, ground := Ground.phase }, { on := 8, ground := Ground.phase }, { on := 9, ground := Ground.phase }, { on := 10, ground := Ground.phase }, { on := 11, ground := Ground.phase }, { on := 12, ground := Ground.phase }, { on := 13, ground := Ground.phase }, { on := 14, ground := Ground.phase }, { on := 15, ground := Ground.phase }, { on := 16, ground := Ground.phase }, { on := 17, ground := Ground.phase }, { on := 18, ground := Ground.phase }, { on := 19, ground := Ground.phase }], guard := none }) (v := .int .i64 kc) rfl (by kernel_rfl) (by kernel_rfl) (by kernel_rfl) (fun _ _ _ h => h) (Or.inl ⟨by rfl, fun w' hSw => by clear hSw; go_simp⟩) (by assumption) ?_
          simp only [Act.put, List.setIfInBounds_toArray, List.set_cons_zero, List.set_cons_succ]
          refine wpAnyH_done (by kernel_rfl) ?_ _
          refine NoPanic.normal ?_
          go_wp2_with fail
          go_meet
          exact ⟨_, B5, ao5, cp5, rfl, rfl, HL⟩
      case rest =>
        obtain ⟨b5, B5, ao5, cp5, rfl, rfl, HL⟩ := hcut
        by_cases h0 : kc = 0
        · subst h0
          obtain ⟨ro, rl, rs⟩ := HRO.out rfl
          have HVN := hide (HV.out.put HL.out ro (rl.trans HV.out.lm) (rs.trans HV.out.lsn))
          clear ro rl rs hkb HRO
          obtain ⟨p0, p1, p2, p3, p4, p5, f0, f1, f2, f3, f4, f5, fl⟩ := HL.out.pg.pag
          obtain ⟨q0, q1, q2, q3, q4, q5, t0, t1, t2, t3, t4, t5, tl⟩ := (HV.out.pg.pag.more HL.out.only)
          go_wp2_with fail
          go_roundw
          case rel => exact ⟨i + 1, _, _, _, _, by omega, by go_num, HVN⟩
          case measure => simp [intOf]; omega
        · have hne : (kc == 0) = false := by simp [h0]
          have HVN := hide (HV.out.more HL.out.only)
          clear h0 HRO
          go_wp2_with fail
          go_roundw
          case rel => exact ⟨i + 1, _, _, _, _, by omega, by go_num, HVN⟩
          case measure => simp [intOf]; omega
    · clear HOPW
      have hni : ¬ (i : Int) < (n : Int) := by omega
      have HP_p := hide HV.out.pg
      have HO := HOW
      have hpo : OkP m p := HV.out.ok
      have hMd : Md m := HM.out.1
      have HLM : Hid (lim m (it0 p) = fr) := HV.out.lm
      have HCX : Hid (wr.cell? ⟨w.heap.size, 0, none⟩ = some (.slice aO n cap)) := (HV.out.only.cell (p := ⟨w.heap.size, 0, none⟩) HBX1.out HBN.out).trans HCX0.out
      have HCY : Hid (wr.cell? ⟨w.heap.size, 1, none⟩ = some (.int .i64 y)) := (HV.out.only.cell (p := ⟨w.heap.size, 1, none⟩) HBX1.out HBN.out).trans HCY0.out
      have HBX : Hid (w.heap.size < wr.heap.size) := Nat.lt_of_lt_of_le HBX1.out HV.out.only.size
      have hcx := HCX.out
      have e0 : (⟨p.lsn, p.kind, p.level, p.right, p.high, p.items⟩ : Pg) = p := rfl
      have HG1 := hide (fun W B ao cp x (hx : Idd m x) (hS : Strs W B ao p.items) => cget_any W m p.lsn p.kind p.level p.right x p.high cp B ao p.items HIM.out ⟨by have := hx.2; omega, by have := hx.2; omega⟩ hS)
      have HC2 := hide (fun W B ao cp (hS : Strs W B ao p.items) => ccut_any W m p.lsn p.kind p.level p.right y p.high cp B ao p.items HIM.out HY.out hS)
      simp only [e0] at HG1 HC2
      have hk01 := cid_01 (y := y) hMd hpo
      have HQ := hide (fun h => cid_zero (m := m) (p := p) (x := y) h)
      have HQR : Hid (cid m p y = 0 → cutR m p y = cutP m p y) := fun h => by unfold cutR; rw [if_pos h]
      obtain ⟨kq, hkq⟩ : ∃ k, cid m p y = k := ⟨_, rfl⟩
      obtain ⟨q, hq⟩ : ∃ q, cutR m p y = q := ⟨_, rfl⟩
      simp only [hkq, hq] at HC2 HQ HQR hk01
      have HPO := hide hpo
      have HMD := hide hMd
      clear hkq hq e0 hpo hMd
      go_upto_region 10 with fail
      clear hcx
      have hcy := HCY.out
      obtain ⟨zp0, zp1, zp2, zp3, zp4, zp5, zf0, zf1, zf2, zf3, zf4, zf5, zfl⟩ := HP_p.out.pag
      go_wp2_with fail
      refine (HC2.out _ _ _ _ HP_p.out.strs).mono ?_
      rintro e w3 ⟨B3, ao3, cp3, rfl, hS3, hF3, ho, hB3⟩
      clear zp0 zf0 zp1 zf1 zp2 zf2 zp3 zf3 zp4 zf4 zp5 zf5 zfl
      have HCY := hide ((ho.cell (p := ⟨w.heap.size, 1, none⟩) HBX.out (fun h => h)).trans HCY.out)
      have HBX : Hid (w.heap.size < w3.heap.size) := Nat.lt_of_lt_of_le HBX.out ho.size
      clear hcy
      have HP_p := hide (HP_p.out.more ho)
      have HO := hide (o2 HO.out ho)
      have HP_q := hide (PgB.new hS3 hF3)
      have HN := hide (onlyA w3 (.cells #[.int .i64 q.lsn, .int .i64 q.kind, .int .i64 q.level, .int .i64 q.right, .string q.high, .slice ao3 q.items.length cp3] 24))
      have HD3 : Hid (b1 < w3.heap.size) := by unfold Hid; have := HP_p.out.pag.lt; omega
      clear hS3 hF3 hB3 ho
      go_upto_region 11 with fail
      obtain ⟨b3, hb⟩ : ∃ b, w3.heap.size = b := ⟨_, rfl⟩
      obtain ⟨W3, hW⟩ : ∃ W, w3.alloc (.cells #[.int .i64 q.lsn, .int .i64 q.kind, .int .i64 q.level, .int .i64 q.right, .string q.high, .slice ao3 q.items.length cp3] 24) = W := ⟨_, rfl⟩
      rw [hW] at HP_q HN ⊢
      rw [hb] at HP_q HD3 ⊢
      clear hW hb
      have HP_p := hide (HP_p.out.more HN.out)
      have HO := hide (o2 HO.out HN.out)
      have HCY := hide ((HN.out.cell (p := ⟨w.heap.size, 1, none⟩) HBX.out (fun h => h)).trans HCY.out)
      have HBX : Hid (w.heap.size < W3.heap.size) := Nat.lt_of_lt_of_le HBX.out HN.out.size
      by_cases h0 : kq = 0
      · subst h0
        obtain ⟨hI, _⟩ := HQ.out rfl
        have hqr := HQR.out rfl
        have HQO : Hid (OkP m q) := by unfold Hid; rw [hqr]; exact HPO.out.cut hI
        have c1 : fst m q = y := by rw [hqr]; exact cut_lim hI HPO.out
        have c2 : chk m q = 0 := chk_ok HMD.out HQO.out
        have HCG : Hid (∀ j : Nat, (j : Int) < m → ((j : Int) < xgap m fr y → gst m q (xadd m fr j) = 0) ∧ (¬ (j : Int) < xgap m fr y → gst m q (xadd m fr j) = gst m p (xadd m fr j))) := by
          intro j hj
          rw [hqr]
          exact cut_gets HPO.out HLM.out HM.out hI j hj
        have e0 : (⟨q.lsn, q.kind, q.level, q.right, q.high, q.items⟩ : Pg) = q := rfl
        have HF := hide (fun W B ao cp (hS : Strs W B ao q.items) => cfrozen_any W m q.lsn q.kind q.level q.right q.high cp B ao q.items HIM.out hS)
        have HG2 := hide (fun W B ao cp x (hx : Idd m x) (hS : Strs W B ao q.items) => cget_any W m q.lsn q.kind q.level q.right x q.high cp B ao q.items HIM.out ⟨by have := hx.2; omega, by have := hx.2; omega⟩ hS)
        simp only [e0, c1, c2] at HF
        simp only [e0] at HG2
        have HGB := hide (xgap_lt HM.out hI)
        have HGF := hide (fun j h0 h1 => gap_first (n := j) HM.out hI h0 h1)
        clear c1 c2 e0 hqr hk01
        go_upto_region 13 with fail
        obtain ⟨zp0, zp1, zp2, zp3, zp4, zp5, zf0, zf1, zf2, zf3, zf4, zf5, zfl⟩ := HP_q.out.pag
        go_wp2_with fail
        refine (HF.out _ _ _ _ HP_q.out.strs).mono ?_
        rintro e w4 ⟨rfl, ho⟩
        clear zp0 zf0 zp1 zf1 zp2 zf2 zp3 zf3 zp4 zf4 zp5 zf5 zfl
        have HCY := hide ((ho.cell (p := ⟨w.heap.size, 1, none⟩) HBX.out (fun h => h)).trans HCY.out)
        have HBX : Hid (w.heap.size < w4.heap.size) := Nat.lt_of_lt_of_le HBX.out ho.size
        have HP_p := hide (HP_p.out.more ho)
        have HP_q := hide (HP_q.out.more ho)
        have HO := hide (o2 HO.out ho)
        clear ho
        have hcy := HCY.out
        go_wp2_with fail
        clear hcy
        obtain ⟨G, hG⟩ : ∃ G, xgap m fr y = G := ⟨_, rfl⟩
        simp only [hG] at HCG HGB HGF
        clear hG
        have hgb := HGB.out
        go_loopw [16, 17, 18] (fun t u v wr => ∃ (j : Nat), (j : Int) ≤ m ∧ t = .int .i64 (xadd m fr j) ∧ u = .bool (decide ((j : Int) ≤ G)) ∧ v = .int .i64 (j : Int) ∧ Hid (Only (fun _ => False) w4 wr)) (fun _ _ v _ => m.toNat - (intOf v).toNat)
        case atStart => exact ⟨0, by omega, by rw [show ((0 : Nat) : Int) = 0 from rfl, ring_zero HM.out], by rw [decide_eq_true (by omega)], rfl, Only.refl _ _⟩
        case round =>
          obtain ⟨j, hj, rfl, rfl, rfl, HON⟩ := hrel
          have HO := hide (o2 HO.out HON.out)
          have HP_p := hide (HP_p.out.more HON.out)
          have HP_q := hide (HP_q.out.more HON.out)
          have HCY := hide ((HON.out.cell (p := ⟨w.heap.size, 1, none⟩) HBX.out (fun h => h)).trans HCY.out)
          by_cases hjm : (j : Int) < m
          · have hidd := xadd_id (n := (j : Int)) HM.out
            have HID := hide hidd
            obtain ⟨hi1, hi2⟩ := hidd.2
            have HRS := hide (ring_step HM.out j)
            have HCJ := hide (HCG.out j hjm)
            have HFJ := hide (fun h => HGF.out (j : Int) (by omega) h)
            have HA := hide (fun W B ao cp hS => HG1.out W B ao cp _ HID.out hS)
            have HB2 := hide (fun W B ao cp hS => HG2.out W B ao cp _ HID.out hS)
            have hga := gst_lt m p (xadd m fr j)
            have hgb2 := gst_lt m q (xadd m fr j)
            have c1 : cid m p (xadd m fr j) = 0 := cid_ok hidd HPO.out
            have c2 : cid m q (xadd m fr j) = 0 := cid_ok hidd HQO.out
            simp only [c1] at HA
            simp only [c2] at HB2
            have hnx := (xadd_id (n := ((j + 1 : Nat) : Int)) HM.out).2
            obtain ⟨id, hid⟩ : ∃ x, xadd m fr j = x := ⟨_, rfl⟩
            obtain ⟨ga, hgae⟩ : ∃ x, gst m p id = x := ⟨_, rfl⟩
            obtain ⟨gb, hgbe⟩ : ∃ x, gst m q id = x := ⟨_, rfl⟩
            simp only [hid] at HRS HCJ HFJ HA HB2 hi1 hi2 hga hgb2 HID ⊢
            simp only [hgae, hgbe] at HCJ HA HB2 hga hgb2
            obtain ⟨id', hid'⟩ : ∃ x, xadd m fr ((j + 1 : Nat) : Int) = x := ⟨_, rfl⟩
            rw [hid'] at HRS hnx
            have HID' := hide hid'
            have hrs := HRS.out
            clear hid hid' hgae hgbe c1 c2 hidd HID
            obtain ⟨t, ht⟩ : ∃ t, id.tmod m = t := ⟨_, rfl⟩
            rw [ht] at hrs
            have htb : 0 ≤ t ∧ t < 1024 := by omega
            have hcy := HCY.out
            by_cases hlt : (j : Int) < G
            · have hgz : gb = 0 := HCJ.out.1 hlt
              have hne : ¬ id = y := fun e => by have := (HFJ.out (by omega)).1 e; omega
              have hneb : (id != y) = true := by simp [hne]
              clear hne
              rw [decide_eq_true (show (j : Int) ≤ G by omega)]
              subst hgz
              clear HCJ HFJ
              go_upto_region 22 with fail
              clear hcy
              obtain ⟨zp0, zp1, zp2, zp3, zp4, zp5, zf0, zf1, zf2, zf3, zf4, zf5, zfl⟩ := HP_p.out.pag
              go_wp2_with fail
              refine (HA.out _ _ _ _ HP_p.out.strs).mono ?_
              rintro e w6 ⟨rfl, ho⟩
              clear zp0 zf0 zp1 zf1 zp2 zf2 zp3 zf3 zp4 zf4 zp5 zf5 zfl
              have HO6 := hide (o2 HON.out ho)
              have HP_q := hide (HP_q.out.more ho)
              clear ho
              go_upto_region 23 with fail
              obtain ⟨zp0, zp1, zp2, zp3, zp4, zp5, zf0, zf1, zf2, zf3, zf4, zf5, zfl⟩ := HP_q.out.pag
              go_wp2_with fail
              refine (HB2.out _ _ _ _ HP_q.out.strs).mono ?_
              rintro e w7 ⟨rfl, ho⟩
              clear zp0 zf0 zp1 zf1 zp2 zf2 zp3 zf3 zp4 zf4 zp5 zf5 zfl
              have HO7 := hide (o2 HO6.out ho)
              clear ho
              go_wp2_with fail
              go_roundw
              case rel => exact ⟨j + 1, by omega, by rw [HID'.out, ← hrs], by rw [decide_eq_true (by omega)], by go_num, HO7⟩
              case measure => simp [intOf]; omega
            · have hgz : gb = ga := HCJ.out.2 (by omega)
              subst hgz
              by_cases hle : (j : Int) ≤ G
              · have hey : id = y := (HFJ.out hle).2 (by omega)
                rw [decide_eq_true hle]
                subst hey
                clear HCJ HFJ
                go_upto_region 22 with fail
                clear hcy
                obtain ⟨zp0, zp1, zp2, zp3, zp4, zp5, zf0, zf1, zf2, zf3, zf4, zf5, zfl⟩ := HP_p.out.pag
                go_wp2_with fail
                refine (HA.out _ _ _ _ HP_p.out.strs).mono ?_
                rintro e w6 ⟨rfl, ho⟩
                clear zp0 zf0 zp1 zf1 zp2 zf2 zp3 zf3 zp4 zf4 zp5 zf5 zfl
                have HO6 := hide (o2 HON.out ho)
                have HP_q := hide (HP_q.out.more ho)
                clear ho
                go_upto_region 23 with fail
                obtain ⟨zp0, zp1, zp2, zp3, zp4, zp5, zf0, zf1, zf2, zf3, zf4, zf5, zfl⟩ := HP_q.out.pag
                go_wp2_with fail
                refine (HB2.out _ _ _ _ HP_q.out.strs).mono ?_
                rintro e w7 ⟨rfl, ho⟩
                clear zp0 zf0 zp1 zf1 zp2 zf2 zp3 zf3 zp4 zf4 zp5 zf5 zfl
                have HO7 := hide (o2 HO6.out ho)
                clear ho
                go_wp2_with fail
                go_roundw
                case rel => exact ⟨j + 1, by omega, by rw [HID'.out, ← hrs], by rw [decide_eq_false (by omega)], by go_num, HO7⟩
                case measure => simp [intOf]; omega
              · rw [decide_eq_false hle]
                clear HCJ HFJ
                go_upto_region 22 with fail
                clear hcy
                obtain ⟨zp0, zp1, zp2, zp3, zp4, zp5, zf0, zf1, zf2, zf3, zf4, zf5, zfl⟩ := HP_p.out.pag
                go_wp2_with fail
                refine (HA.out _ _ _ _ HP_p.out.strs).mono ?_
                rintro e w6 ⟨rfl, ho⟩
                clear zp0 zf0 zp1 zf1 zp2 zf2 zp3 zf3 zp4 zf4 zp5 zf5 zfl
                have HO6 := hide (o2 HON.out ho)
                have HP_q := hide (HP_q.out.more ho)
                clear ho
                go_upto_region 23 with fail
                obtain ⟨zp0, zp1, zp2, zp3, zp4, zp5, zf0, zf1, zf2, zf3, zf4, zf5, zfl⟩ := HP_q.out.pag
                go_wp2_with fail
                refine (HB2.out _ _ _ _ HP_q.out.strs).mono ?_
                rintro e w7 ⟨rfl, ho⟩
                clear zp0 zf0 zp1 zf1 zp2 zf2 zp3 zf3 zp4 zf4 zp5 zf5 zfl
                have HO7 := hide (o2 HO6.out ho)
                clear ho
                go_wp2_with fail
                go_roundw
                case rel => exact ⟨j + 1, by omega, by rw [HID'.out, ← hrs], by rw [decide_eq_false (by omega)], by go_num, HO7⟩
                case measure => simp [intOf]; omega
          · have hjn : ¬ (j : Int) < m := hjm
            go_wp2_with fail
            refine (cawake_any _).mono ?_
            rintro e w9 ⟨rfl, ho⟩
            have HO := hide (o2 HO.out ho)
            clear ho
            go_wp2_with fail
            go_ret
            exact ⟨rfl, HO.out⟩
      · have h1 : kq = 1 := by omega
        subst h1
        clear h0 hk01
        go_wp2_with fail
        refine (cawake_any _).mono ?_
        rintro e w9 ⟨rfl, ho⟩
        have HO := hide (o2 HO.out ho)
        clear ho
        go_wp2_with fail
        go_ret
        exact ⟨rfl, HO.out⟩
theorem cuts_law (w : World) (m fr y : Int) (BO : Nat) (aO : Option Addr) (n cap : Nat) (C : Nat → Bool) (X : Nat → Int) (S : Nat → Nat) (hm : I64 m) (hfr : I64 fr) (hy : I64 y) (hI : Ops w BO aO n C X S) :
    Calls Try.prog 6 #[.int .i64 m, .int .i64 fr, .agg #[.slice aO n cap, .int .i64 y]] w fun e w' => e = .returned (.bool true) ∧ Only (fun _ => False) w w' := by
  by_cases hM : Idd m fr
  · exact cuts_ok w m fr y BO aO n cap C X S hM hy hI
  · exact cuts_bad w m fr y aO n cap hm hfr hM
end Go.Proofs.Ytcpgflkjeglgbaa
