/- Walk of ClogKeeps. -/
import Derived.Test.YtcpgflkjeglgbaaCHeld
import Derived.Test.YtcpgflkjeglgbaaPEnc
namespace Go.Proofs.Ytcpgflkjeglgbaa
open Go.RowKit

theorem cid_same {m y : Int} {p q : Pg} (hM : Md m) (hp : OkP m p) (hq : OkP m q) : cid m p y = cid m q y := by
  unfold cid
  rw [if_pos (chk_ok hM hp), if_pos (chk_ok hM hq)]
theorem cid_01 {m y : Int} {p : Pg} (hM : Md m) (hp : OkP m p) : cid m p y = 0 ∨ cid m p y = 1 := by
  unfold cid
  rw [if_pos (chk_ok hM hp)]
  split
  · exact .inl rfl
  · exact .inr rfl
theorem setC_01 {m y : Int} {p : Pg} {s : Nat} (hM : Md m) (hp : OkP m p) : setC m p y s = 0 ∨ setC m p y s = 1 := by
  unfold setC
  split
  · split
    · exact .inl rfl
    · exact .inr rfl
  · exact cid_01 hM hp
theorem gst_lt (m : Int) (p : Pg) (x : Int) : gst m p x < 4 := by
  unfold gst
  split
  · exact stAt_lt _ _
  · omega
theorem gst_set {m x y : Int} {p : Pg} {v : Nat} (hp : OkP m p) (hx : Idd m x) (hv : v < 4) : (x = y → gst m (setP p x v) y = v) ∧ (¬ x = y → gst m (setP p x v) y = gst m p y) := by
  have hq := hp.set hx hv
  have hat := stAt_set (at_lt hx hp.size) hv
  have e1 : bl (it1 (setP p x v)) = stSet (bl (it1 p)) (x - 1).toNat v := bl_str _
  constructor
  · intro e
    subst e
    unfold gst
    rw [if_pos (cid_ok hx hq), e1, hat, if_pos rfl]
  · intro e
    unfold gst
    rw [cid_same hx.1 hq hp]
    split
    · rename_i h
      have hy := (cid_zero h).1
      rw [e1, hat, if_neg (by have := hx.2; have := hy.2; omega)]
    · rfl
theorem OkP.item0 {m : Int} {p : Pg} (h : OkP m p) : (it0 p).size ≤ 10 := by
  have := lim_canon h.lm
  rw [this, str_size]
  exact sevF_len 9 _
theorem enc_code {m : Int} {p : Pg} (hM : Md m) (h : OkP m p) : (Pg.out p).2 = 0 := by
  have h0 := h.item0
  have h1 := h.size
  have hn := nb_bd hM
  have e0 : (⟨#[]⟩ : ByteArray).size = 0 := rfl
  rw [h.is]
  rw [out_ok]
  · refine ⟨h.lsn, ?_, ?_, ?_, ?_, ?_, ?_⟩ <;> simp only <;> omega
  · refine ⟨Nat.zero_le _, ?_, ?_⟩
    · simp
    · show 20 + (⟨#[]⟩ : ByteArray).size + isz [it0 p, it1 p] ≤ 512
      rw [isz_cons, isz_cons, isz_nil, e0]
      omega
set_option maxRecDepth 100000 in
set_option maxHeartbeats 3200000 in
theorem keeps_ok (w : World) (m x y : Int) (BO : Nat) (aO : Option Addr) (n cap : Nat) (C : Nat → Bool) (X : Nat → Int) (S : Nat → Nat) (hM : Idd m 1) (hx : I64 x) (hy : I64 y) (hI : Ops w BO aO n C X S) :
    Calls Try.prog 5 #[.int .i64 m, .slice aO n cap, .agg #[.int .i64 x, .int .i64 y]] w fun e w' => e = .returned (.bool true) ∧ Only (fun _ => False) w w' := by
  have HB := hide (fun W => cblank_ok W m 1 hM)
  have HK0 := hide (OkP.blank hM)
  have hm1 := hM.1.1
  have hm2 := hM.1.2.1
  have HIM : Hid (I64 m) := ⟨by omega, by omega⟩
  have HOPS := hide hI
  have hn := hI.len
  have hx1 := hx.1
  have hx2 := hx.2
  have hy1 := hy.1
  have hy2 := hy.2
  have HX := hide hx
  have HY := hide hy
  have HM := hide hM
  obtain ⟨P0, hP0⟩ : ∃ P, blankP m 1 = P := ⟨_, rfl⟩
  have HLS : Hid (P0.lsn = 0) := by unfold Hid; rw [← hP0]; rfl
  simp only [hP0] at HB HK0
  obtain ⟨f, hf⟩ : ∃ f, lim m (it0 P0) = f := ⟨_, rfl⟩
  have HF := hide hf
  clear hP0 hM hI hx hy hf
  go_enter Try.func5, Try.ntmps5
  go_wp2_with fail
  obtain ⟨W0, hW0⟩ : ∃ W, w.alloc (.cells #[.int .i64 x, .int .i64 y] 44) = W := ⟨_, rfl⟩
  have HO0 : Hid (Only (fun _ => False) w W0) := by unfold Hid; rw [← hW0]; exact onlyA _ _
  rw [hW0]
  clear hW0
  refine (HB.out _).mono ?_
  rintro e w1 ⟨B1, ao1, cp1, rfl, hS1, hF1, ho1, hB1⟩
  have HP := hide (PgB.new hS1 hF1)
  have HOA := hide (o2 (o2 HO0.out ho1) (onlyA w1 (.cells #[.int .i64 P0.lsn, .int .i64 P0.kind, .int .i64 P0.level, .int .i64 P0.right, .string P0.high, .slice ao1 P0.items.length cp1] 24)))
  have HB1 : Hid (w.heap.size ≤ w1.heap.size) := (o2 HO0.out ho1).size
  have HNE : Hid (B1 < w1.heap.size) := hS1.lt (by rw [HK0.out.two]; omega)
  clear hS1 hF1 hB1 ho1
  go_upto_region 4 with fail
  obtain ⟨b1, hb1⟩ : ∃ b, w1.heap.size = b := ⟨_, rfl⟩
  obtain ⟨W1, hW1⟩ : ∃ W, w1.alloc (.cells #[.int .i64 P0.lsn, .int .i64 P0.kind, .int .i64 P0.level, .int .i64 P0.right, .string P0.high, .slice ao1 P0.items.length cp1] 24) = W := ⟨_, rfl⟩
  rw [hW1] at HP HOA ⊢
  rw [hb1] at HP HB1 HNE ⊢
  clear hW1 hb1
  have HOW1 := HOA
  have HV0 : Hid (Var m W1 W1 b1 f P0 B1 ao1 cp1) := ⟨HP.out, by have := HNE.out; omega, HK0.out, HF.out, HLS.out, Only.refl _ _⟩
  clear HP HK0 HNE HLS HF
  go_wp2_with fail
  go_loopw [11] (fun t wr => ∃ (i : Nat) (p : Pg) (B : Nat) (ao : Option Addr) (cp : Nat), i ≤ n ∧ t = .int .i64 (i : Int) ∧ Hid (Var m W1 wr b1 f p B ao cp)) (fun t _ => n - (intOf t).toNat)
  case atStart => exact ⟨0, _, _, _, _, by omega, rfl, HV0⟩
  case round =>
    obtain ⟨i, p, B, ao, cp, hi, rfl, HV⟩ := hrel
    have HOW : Hid (Only (fun _ => False) w wr) := HOW1.out.trans HV.out.only (fun i hi e => by have := HB1.out; omega)
    have HOPW := hide (HOPS.out.more HOW.out)
    by_cases hlt : i < n
    · obtain ⟨oO, eO, hcO⟩ := HOPW.out.at_ (by omega)
      subst eO
      have HC1 := hide (hcO i hlt).2.1
      have HC2 := hide (hcO i hlt).2.2
      have HBO := hide (HOPW.out.lt (by omega))
      obtain ⟨wfx, wfs⟩ := HOPW.out.wf i hlt
      have HSETq := hide (fun W (ho : Only (fun _ => False) wr W) => cset_any W m p.lsn p.kind p.level p.right (X i) p.high cp B ao p.items (S i) HIM.out wfx (HV.out.pg.strs.more ho) wfs)
      have e0 : (⟨p.lsn, p.kind, p.level, p.right, p.high, p.items⟩ : Pg) = p := rfl
      simp only [e0] at HSETq
      have HRO := hide (fun h => setR_ok (m := m) (x := X i) (p := p) (s := S i) h)
      have hkb := setC_bd m p (X i) (S i)
      obtain ⟨kc, hkc⟩ : ∃ k, setC m p (X i) (S i) = k := ⟨_, rfl⟩
      obtain ⟨q, hq⟩ : ∃ q, setR m p (X i) (S i) = q := ⟨_, rfl⟩
      simp only [hkc, hq] at HSETq HRO hkb
      have HSET := HSETq
      have wx1 := wfx.1
      have wx2 := wfx.2
      clear hcO hkc hq HSETq e0 wfx
      have hin : (i : Int) < (n : Int) := by omega
      go_upto_region 9 with fail
      go_cut [12, 13] (fun t u wc => ∃ b5 B5 ao5 cp5, t = .pointer (some ⟨b5, 0, none⟩) ∧ u = .int .i64 kc ∧ Hid (Laid wr wc b5 q B5 ao5 cp5))
      case first =>
        refine wp_region_noPanic ?_
        refine wp_region_held_drew (S := fun W => Only (fun _ => False) wr W) (by kernel_rfl) (Only.drew _ wr) (fun hHeld => ?_)
        refine wpAnyH_take (i := 0) (oi := { dst := some 49, op := Op.move (Operand.tmp 0), type := 3, pos := "law.go:89", after := #[], guard := none }) (v := .int .i64 m) rfl (by kernel_rfl) (by kernel_rfl) (by kernel_rfl) (fun _ _ _ h => h) (Or.inl ⟨by rfl, fun w' hSw => by clear hSw; go_simp⟩) (by assumption) ?_
        simp only [Act.put, List.setIfInBounds_toArray, List.set_cons_zero, List.set_cons_succ]
        refine wpAnyH_take (i := 1) (oi := { dst := some 50, op := Op.load 24 (Operand.tmp 9), type := 24, pos := "law.go:89", after := #[], guard := none }) (v := .agg #[.int .i64 p.lsn, .int .i64 p.kind, .int .i64 p.level, .int .i64 p.right, .string p.high, .slice ao p.items.length cp]) rfl (by kernel_rfl) (by kernel_rfl) (by kernel_rfl) (fun _ _ _ h => h) (yieldsIf_load_page (by rfl) _ rfl _ rfl (fun W hW => (HV.out.pg.more hW).pag)) (by assumption) ?_
        simp only [Act.put, List.setIfInBounds_toArray, List.set_cons_zero, List.set_cons_succ]
        refine wpAnyH_take (i := 2) (oi := { dst := some 51, op := Op.move (Operand.tmp 1), type := 40, pos := "law.go:89", after := #[], guard := none }) (v := .slice (some ⟨BO, oO, none⟩) n cap) rfl (by kernel_rfl) (by kernel_rfl) (by kernel_rfl) (fun _ _ _ h => h) (Or.inl ⟨by rfl, fun w' hSw => by clear hSw; go_simp⟩) (by assumption) ?_
        simp only [Act.put, List.setIfInBounds_toArray, List.set_cons_zero, List.set_cons_succ]
        refine wpAnyH_take (i := 3) (oi := { dst := some 52, op := Op.move (Operand.tmp 11), type := 3, pos := "law.go:89", after := #[], guard := none }) (v := .int .i64 (i : Int)) rfl (by kernel_rfl) (by kernel_rfl) (by kernel_rfl) (fun _ _ _ h => h) (Or.inl ⟨by rfl, fun w' hSw => by clear hSw; go_simp⟩) (by assumption) ?_
        simp only [Act.put, List.setIfInBounds_toArray, List.set_cons_zero, List.set_cons_succ]
        refine wpAnyH_take (i := 7) (oi := { dst := some 56, op := Op.move (Operand.tmp 1), type := 40, pos := "law.go:89", after := #[], guard := none }) (v := .slice (some ⟨BO, oO, none⟩) n cap) rfl (by kernel_rfl) (by kernel_rfl) (by kernel_rfl) (fun _ _ _ h => h) (Or.inl ⟨by rfl, fun w' hSw => by clear hSw; go_simp⟩) (by assumption) ?_
        simp only [Act.put, List.setIfInBounds_toArray, List.set_cons_zero, List.set_cons_succ]
        refine wpAnyH_take (i := 8) (oi := { dst := some 57, op := Op.move (Operand.tmp 11), type := 3, pos := "law.go:89", after := #[], guard := none }) (v := .int .i64 (i : Int)) rfl (by kernel_rfl) (by kernel_rfl) (by kernel_rfl) (fun _ _ _ h => h) (Or.inl ⟨by rfl, fun w' hSw => by clear hSw; go_simp⟩) (by assumption) ?_
        simp only [Act.put, List.setIfInBounds_toArray, List.set_cons_zero, List.set_cons_succ]
        refine wpAnyH_take (i := 4) (oi := { dst := some 53, op := Op.indexAddr 40 (Operand.tmp 51) (Operand.tmp 52), type := 0, pos := "law.go:89", after := #[{ on := 2, ground := Ground.data }, { on := 3, ground := Ground.data }], guard := none }) (v := .pointer (some ⟨BO, oO + i * 3, none⟩)) rfl (by kernel_rfl) (by kernel_rfl) (by kernel_rfl) (fun _ _ _ h => h) (Or.inl ⟨by rfl, fun w' hSw => by clear hSw; go_simp⟩) (by assumption) ?_
        simp only [Act.put, List.setIfInBounds_toArray, List.set_cons_zero, List.set_cons_succ]
        refine wpAnyH_take (i := 9) (oi := { dst := some 58, op := Op.indexAddr 40 (Operand.tmp 56) (Operand.tmp 57), type := 0, pos := "law.go:89", after := #[{ on := 7, ground := Ground.data }, { on := 8, ground := Ground.data }], guard := none }) (v := .pointer (some ⟨BO, oO + i * 3, none⟩)) rfl (by kernel_rfl) (by kernel_rfl) (by kernel_rfl) (fun _ _ _ h => h) (Or.inl ⟨by rfl, fun w' hSw => by clear hSw; go_simp⟩) (by assumption) ?_
        simp only [Act.put, List.setIfInBounds_toArray, List.set_cons_zero, List.set_cons_succ]
        refine wpAnyH_take (i := 5) (oi := { dst := some 54, op := Op.fieldAddr 27 (Operand.tmp 53) 1, type := 0, pos := "law.go:89", after := #[{ on := 4, ground := Ground.data }], guard := none }) (v := .pointer (some ⟨BO, oO + i * 3 + 1, none⟩)) rfl (by kernel_rfl) (by kernel_rfl) (by kernel_rfl) (fun _ _ _ h => h) (Or.inl ⟨by rfl, fun w' hSw => by clear hSw; go_simp⟩) (by assumption) ?_
        simp only [Act.put, List.setIfInBounds_toArray, List.set_cons_zero, List.set_cons_succ]
        refine wpAnyH_take (i := 10) (oi := { dst := some 59, op := Op.fieldAddr 27 (Operand.tmp 58) 2, type := 0, pos := "law.go:89", after := #[{ on := 9, ground := Ground.data }], guard := none }) (v := .pointer (some ⟨BO, oO + i * 3 + 2, none⟩)) rfl (by kernel_rfl) (by kernel_rfl) (by kernel_rfl) (fun _ _ _ h => h) (Or.inl ⟨by rfl, fun w' hSw => by clear hSw; go_simp⟩) (by assumption) ?_
        simp only [Act.put, List.setIfInBounds_toArray, List.set_cons_zero, List.set_cons_succ]
        refine wpAnyH_take (i := 6) (oi := { dst := some 55, op := Op.load 3 (Operand.tmp 54), type := 3, pos := "law.go:89", after := #[{ on := 5, ground := Ground.data }], guard := none }) (v := .int .i64 (X i)) rfl (by kernel_rfl) (by kernel_rfl) (by kernel_rfl) (fun _ _ _ h => h) (yieldsIf_load_cell (by rfl) 3 _ rfl _ rfl (fun W hW => (hW.cell (p := ⟨BO, oO + i * 3 + 1, none⟩) HBO.out (fun h => h)).trans HC1.out) (fun W hc => ld_int hc)) (by assumption) ?_
        simp only [Act.put, List.setIfInBounds_toArray, List.set_cons_zero, List.set_cons_succ]
        refine wpAnyH_take (i := 11) (oi := { dst := some 60, op := Op.load 25 (Operand.tmp 59), type := 25, pos := "law.go:89", after := #[{ on := 10, ground := Ground.data }], guard := none }) (v := .int .u8 (S i : Int)) rfl (by kernel_rfl) (by kernel_rfl) (by kernel_rfl) (fun _ _ _ h => h) (yieldsIf_load_cell (by rfl) 25 _ rfl _ rfl (fun W hW => (hW.cell (p := ⟨BO, oO + i * 3 + 2, none⟩) HBO.out (fun h => h)).trans HC2.out) (fun W hc => ld_status hc)) (by assumption) ?_
        simp only [Act.put, List.setIfInBounds_toArray, List.set_cons_zero, List.set_cons_succ]
        refine wpAnyH_ready (rs := [12, 16]) (by kernel_rfl) (by simp) ?_
        refine AllReadyH.cons (o := { dst := some 61, op := Op.call { callee := Callee.value (Operand.func 10), args := #[Operand.tmp 49, Operand.tmp 50, Operand.tmp 55, Operand.tmp 60], argTypes := #[3, 24, 3, 25] }, type := 31, pos := "law.go:89", after := #[{ on := 0, ground := Ground.data }, { on := 1, ground := Ground.data }, { on := 6, ground := Ground.data }, { on := 11, ground := Ground.data }], guard := none }) rfl (fun K hK => ?_) (AllReadyH.cons (o := { dst := some 12, op := Op.alloc 24, type := 0, pos := "law.go:89", after := #[], guard := none }) rfl (fun K hK => ?_) (AllReadyH.nil))
        · go_simp
          refine (HSET.out _ (Only.drew _ wr)).mono ?_
          rintro e w5 ⟨B5, ao5, cp5, rfl, hS5, hF5, ho5, hB5⟩
          have HO5 := hide (o2 (Only.drew _ wr) ho5)
          have HL := hide (Laid.first hS5 hF5 HO5.out hB5)
          clear hS5 hF5 ho5 hB5
          refine hK.out _ _ (HO5.out) (fun hHeld => ?_)
          clear hK K
          try simp only [Act.put, List.setIfInBounds_toArray, List.set_cons_zero, List.set_cons_succ]
          refine wpAnyH_take (i := 13) (oi := { dst := some 48, op := Op.move (Operand.tmp 61), type := 31, pos := "law.go:89", after := #[{ on := 12, ground := Ground.data }], guard := none }) (v := .tuple #[.agg #[.int .i64 q.lsn, .int .i64 q.kind, .int .i64 q.level, .int .i64 q.right, .string q.high, .slice ao5 q.items.length cp5], .int .i64 kc]) rfl (by kernel_rfl) (by kernel_rfl) (by kernel_rfl) (fun _ _ _ h => h) (Or.inl ⟨by rfl, fun w' hSw => by clear hSw; go_simp⟩) (by assumption) ?_
          simp only [Act.put, List.setIfInBounds_toArray, List.set_cons_zero, List.set_cons_succ]
          refine wpAnyH_take (i := 14) (oi := { dst := some 62, op := Op.extract (Operand.tmp 48) 0, type := 24, pos := "law.go:89", after := #[{ on := 13, ground := Ground.data }], guard := none }) (v := .agg #[.int .i64 q.lsn, .int .i64 q.kind, .int .i64 q.level, .int .i64 q.right, .string q.high, .slice ao5 q.items.length cp5]) rfl (by kernel_rfl) (by kernel_rfl) (by kernel_rfl) (fun _ _ _ h => h) (Or.inl ⟨by rfl, fun w' hSw => by clear hSw; go_simp⟩) (by assumption) ?_
          simp only [Act.put, List.setIfInBounds_toArray, List.set_cons_zero, List.set_cons_succ]
          refine wpAnyH_take (i := 15) (oi := { dst := some 63, op := Op.extract (Operand.tmp 48) 1, type := 28, pos := "law.go:89", after := #[{ on := 13, ground := Ground.data }, { on := 17, ground := Ground.gcOnly Departure.lateStores }], guard := none }) (v := .int .i64 kc) rfl (by kernel_rfl) (by kernel_rfl) (by kernel_rfl) (fun _ _ _ h => h) (Or.inl ⟨by rfl, fun w' hSw => by clear hSw; go_simp⟩) (by assumption) ?_
          simp only [Act.put, List.setIfInBounds_toArray, List.set_cons_zero, List.set_cons_succ]
          refine wpAnyH_ready (rs := [16]) (by kernel_rfl) (by simp) ?_
          refine AllReadyH.cons (o := { dst := some 12, op := Op.alloc 24, type := 0, pos := "law.go:89", after := #[], guard := none }) rfl (fun K hK => ?_) (AllReadyH.nil)
          go_simp
          refine hK.out _ _ (o2 HO5.out (onlyA _ _)) (fun hHeld => ?_)
          clear hK K
          try simp only [Act.put, List.setIfInBounds_toArray, List.set_cons_zero, List.set_cons_succ]
          refine wpAnyH_ready (rs := [17]) (by kernel_rfl) (by simp) ?_
          refine AllReadyH.cons (o := { dst := none, op := Op.store 24 (Operand.tmp 12) (Operand.tmp 62), type := 0, pos := "law.go:89", after := #[{ on := 16, ground := Ground.data }, { on := 14, ground := Ground.data }, { on := 12, ground := Ground.chain }, { on := 0, ground := Ground.phase }, { on := 1, ground := Ground.phase }, { on := 2, ground := Ground.phase }, { on := 3, ground := Ground.phase }, { on := 4, ground := Ground.phase }, { on := 5, ground := Ground.phase }, { on := 6, ground := Ground.phase }, { on := 7, ground := Ground.phase }, { on := 8, ground := Ground.phase }, { on := 9, ground := Ground.phase }, { on := 10, ground := Ground.phase }, { on := 11, ground := Ground.phase }, { on := 12, ground := Ground.phase }, { on := 13, ground := Ground.phase }, { on := 14, ground := Ground.phase }, { on := 15, ground := Ground.textOnly Departure.lateStores }, { on := 16, ground := Ground.phase }], guard := none }) rfl (fun K hK => ?_) (AllReadyH.nil)
          go_simp
          refine hK.out _ _ (HL.out.only) (fun hHeld => ?_)
          clear hK K
          try simp only [Act.put, List.setIfInBounds_toArray, List.set_cons_zero, List.set_cons_succ]
          refine wpAnyH_take (i := 18) (oi := { dst := some 13, op := Op.assign (Operand.tmp 63), type := 28, pos := "law.go:89", after := #[{ on := 15, ground := Ground.data }, { on := 17, ground := Ground.chain }, { on := 0, ground := Ground.phase }, { on := 1, ground := Ground.phase }, { on := 2, ground := Ground.phase }, { on := 3, ground := Ground.phase }, { on := 4, ground := Ground.phase }, { on := 5, ground := Ground.phase }, { on := 6, ground := Ground.phase }, { on := 7, ground := Ground.phase }, { on := 8, ground := Ground.phase }, { on := 9, ground := Ground.phase }, { on := 10, ground := Ground.phase }, { on := 11, ground := Ground.phase }, { on := 12, ground := Ground.phase }, { on := 13, ground := Ground.phase }, { on := 14, ground := Ground.phase }, { on := 15, ground := Ground.phase }, { on := 16, ground := Ground.phase }, { on := 17, ground := Ground.phase }], guard := none }) (v := .int .i64 kc) rfl (by kernel_rfl) (by kernel_rfl) (by kernel_rfl) (fun _ _ _ h => h) (Or.inl ⟨by rfl, fun w' hSw => by clear hSw; go_simp⟩) (by assumption) ?_
          simp only [Act.put, List.setIfInBounds_toArray, List.set_cons_zero, List.set_cons_succ]
          refine wpAnyH_done (by kernel_rfl) ?_ _
          refine NoPanic.normal ?_
          go_wp2_with fail
          go_meet
          exact ⟨_, B5, ao5, cp5, rfl, rfl, HL⟩
        · go_simp
          have HSA : Hid (Only (fun _ => False) wr ((wr.alloc (.cells #[.int .i64 0, .int .i64 0, .int .i64 0, .int .i64 0, .string ⟨#[]⟩, .slice none 0 0] 24)).drew)) := o2 (onlyA _ _) (Only.drew _ _)
          have HZA : Hid (Pag ((wr.alloc (.cells #[.int .i64 0, .int .i64 0, .int .i64 0, .int .i64 0, .string ⟨#[]⟩, .slice none 0 0] 24)).drew) wr.heap.size (.int .i64 0) (.int .i64 0) (.int .i64 0) (.int .i64 0) (.string ⟨#[]⟩) (.slice none 0 0)) := (Pag.zero wr).more (Only.drew _ _)
          refine hK.out _ _ (HSA.out) (fun hHeld => ?_)
          clear hK K
          try simp only [Act.put, List.setIfInBounds_toArray, List.set_cons_zero, List.set_cons_succ]
          refine wpAnyH_ready (rs := [12]) (by kernel_rfl) (by simp) ?_
          refine AllReadyH.cons (o := { dst := some 61, op := Op.call { callee := Callee.value (Operand.func 10), args := #[Operand.tmp 49, Operand.tmp 50, Operand.tmp 55, Operand.tmp 60], argTypes := #[3, 24, 3, 25] }, type := 31, pos := "law.go:89", after := #[{ on := 0, ground := Ground.data }, { on := 1, ground := Ground.data }, { on := 6, ground := Ground.data }, { on := 11, ground := Ground.data }], guard := none }) rfl (fun K hK => ?_) (AllReadyH.nil)
          go_simp
          refine (HSET.out _ HSA.out).mono ?_
          rintro e w5 ⟨B5, ao5, cp5, rfl, hS5, hF5, ho5, hB5⟩
          have HZ := hide (HZA.out.more ho5)
          obtain ⟨z0, z1, z2, z3, z4, z5, y0, y1, y2, y3, y4, y5, zl⟩ := HZ.out
          have HO5 := hide (o2 HSA.out ho5)
          have HB5 : Hid (0 < q.items.length → wr.heap.size < B5) := fun h => by have := hB5 h; have := HZA.out.lt; omega
          have HL := hide (Laid.then HZ.out hS5 hF5 HO5.out (Nat.le_refl _) HB5.out)
          clear hS5 hF5 ho5 hB5
          refine hK.out _ _ (HO5.out) (fun hHeld => ?_)
          clear hK K
          try simp only [Act.put, List.setIfInBounds_toArray, List.set_cons_zero, List.set_cons_succ]
          refine wpAnyH_take (i := 13) (oi := { dst := some 48, op := Op.move (Operand.tmp 61), type := 31, pos := "law.go:89", after := #[{ on := 12, ground := Ground.data }], guard := none }) (v := .tuple #[.agg #[.int .i64 q.lsn, .int .i64 q.kind, .int .i64 q.level, .int .i64 q.right, .string q.high, .slice ao5 q.items.length cp5], .int .i64 kc]) rfl (by kernel_rfl) (by kernel_rfl) (by kernel_rfl) (fun _ _ _ h => h) (Or.inl ⟨by rfl, fun w' hSw => by clear hSw; go_simp⟩) (by assumption) ?_
          simp only [Act.put, List.setIfInBounds_toArray, List.set_cons_zero, List.set_cons_succ]
          refine wpAnyH_take (i := 14) (oi := { dst := some 62, op := Op.extract (Operand.tmp 48) 0, type := 24, pos := "law.go:89", after := #[{ on := 13, ground := Ground.data }], guard := none }) (v := .agg #[.int .i64 q.lsn, .int .i64 q.kind, .int .i64 q.level, .int .i64 q.right, .string q.high, .slice ao5 q.items.length cp5]) rfl (by kernel_rfl) (by kernel_rfl) (by kernel_rfl) (fun _ _ _ h => h) (Or.inl ⟨by rfl, fun w' hSw => by clear hSw; go_simp⟩) (by assumption) ?_
          simp only [Act.put, List.setIfInBounds_toArray, List.set_cons_zero, List.set_cons_succ]
          refine wpAnyH_take (i := 15) (oi := { dst := some 63, op := Op.extract (Operand.tmp 48) 1, type := 28, pos := "law.go:89", after := #[{ on := 13, ground := Ground.data }, { on := 17, ground := Ground.gcOnly Departure.lateStores }], guard := none }) (v := .int .i64 kc) rfl (by kernel_rfl) (by kernel_rfl) (by kernel_rfl) (fun _ _ _ h => h) (Or.inl ⟨by rfl, fun w' hSw => by clear hSw; go_simp⟩) (by assumption) ?_
          simp only [Act.put, List.setIfInBounds_toArray, List.set_cons_zero, List.set_cons_succ]
          refine wpAnyH_ready (rs := [17]) (by kernel_rfl) (by simp) ?_
          refine AllReadyH.cons (o := { dst := none, op := Op.store 24 (Operand.tmp 12) (Operand.tmp 62), type := 0, pos := "law.go:89", after := #[{ on := 16, ground := Ground.data }, { on := 14, ground := Ground.data }, { on := 12, ground := Ground.chain }, { on := 0, ground := Ground.phase }, { on := 1, ground := Ground.phase }, { on := 2, ground := Ground.phase }, { on := 3, ground := Ground.phase }, { on := 4, ground := Ground.phase }, { on := 5, ground := Ground.phase }, { on := 6, ground := Ground.phase }, { on := 7, ground := Ground.phase }, { on := 8, ground := Ground.phase }, { on := 9, ground := Ground.phase }, { on := 10, ground := Ground.phase }, { on := 11, ground := Ground.phase }, { on := 12, ground := Ground.phase }, { on := 13, ground := Ground.phase }, { on := 14, ground := Ground.phase }, { on := 15, ground := Ground.textOnly Departure.lateStores }, { on := 16, ground := Ground.phase }], guard := none }) rfl (fun K hK => ?_) (AllReadyH.nil)
          go_simp
          refine hK.out _ _ (HL.out.only) (fun hHeld => ?_)
          clear hK K
          try simp only [Act.put, List.setIfInBounds_toArray, List.set_cons_zero, List.set_cons_succ]
          refine wpAnyH_take (i := 18) (oi := { dst := some 13, op := Op.assign (Operand.tmp 63), type := 28, pos := "law.go:89", after := #[{ on := 15, ground := Ground.data }, { on := 17, ground := Ground.chain }, { on := 0, ground := Ground.phase }, { on := 1, ground := Ground.phase }, { on := 2, ground := Ground.phase }, { on := 3, ground := Ground.phase }, { on := 4, ground := Ground.phase }, { on := 5, ground := Ground.phase }, { on := 6, ground := Ground.phase }, { on := 7, ground := Ground.phase }, { on := 8, ground := Ground.phase }, { on := 9, ground := Ground.phase }, { on := 10, ground := Ground.phase }, { on := 11, ground := Ground.phase }, { on := 12, ground := Ground.phase }, { on := 13, ground := Ground.phase }, { on := 14, ground := Ground.phase }, { on := 15, ground := Ground.phase }, { on := 16, ground := Ground.phase }, { on := 17, ground := Ground.phase }], guard := none }) (v := .int .i64 kc) rfl (by kernel_rfl) (by kernel_rfl) (by kernel_rfl) (fun _ _ _ h => h) (Or.inl ⟨by rfl, fun w' hSw => by clear hSw; go_simp⟩) (by assumption) ?_
          simp only [Act.put, List.setIfInBounds_toArray, List.set_cons_zero, List.set_cons_succ]
          refine wpAnyH_done (by kernel_rfl) ?_ _
          refine NoPanic.normal ?_
          go_wp2_with fail
          go_meet
          exact ⟨_, B5, ao5, cp5, rfl, rfl, HL⟩
      case rest =>
        obtain ⟨b5, B5, ao5, cp5, rfl, rfl, HL⟩ := hcut
        by_cases h0 : kc = 0
        · subst h0
          obtain ⟨ro, rl, rs⟩ := HRO.out rfl
          have HVN := hide (HV.out.put HL.out ro (rl.trans HV.out.lm) (rs.trans HV.out.lsn))
          clear ro rl rs hkb HRO
          obtain ⟨p0, p1, p2, p3, p4, p5, f0, f1, f2, f3, f4, f5, fl⟩ := HL.out.pg.pag
          obtain ⟨q0, q1, q2, q3, q4, q5, t0, t1, t2, t3, t4, t5, tl⟩ := (HV.out.pg.pag.more HL.out.only)
          go_wp2_with fail
          go_roundw
          case rel => exact ⟨i + 1, _, _, _, _, by omega, by go_num, HVN⟩
          case measure => simp [intOf]; omega
        · have hne : (kc == 0) = false := by simp [h0]
          have HVN := hide (HV.out.more HL.out.only)
          clear h0 HRO
          go_wp2_with fail
          go_roundw
          case rel => exact ⟨i + 1, _, _, _, _, by omega, by go_num, HVN⟩
          case measure => simp [intOf]; omega
    · clear HOPW
      have hni : ¬ (i : Int) < (n : Int) := by omega
      have HP_p := hide HV.out.pg
      have HO := HOW
      have hpo : OkP m p := HV.out.ok
      have hps : p.lsn = 0 := HV.out.lsn
      have hMd : Md m := HM.out.1
      have e0 : (⟨p.lsn, p.kind, p.level, p.right, p.high, p.items⟩ : Pg) = p := rfl
      have HG1 := hide (fun W B ao cp (hS : Strs W B ao p.items) => cget_any W m p.lsn p.kind p.level p.right y p.high cp B ao p.items HIM.out HY.out hS)
      have HS2 := hide (fun W B ao cp (hS : Strs W B ao p.items) => cset_any W m p.lsn p.kind p.level p.right x p.high cp B ao p.items 2 HIM.out HX.out hS (by omega))
      simp only [e0] at HG1 HS2
      have hq01 := setC_01 (y := x) (s := 2) hMd hpo
      have hk01 := cid_01 (y := y) hMd hpo
      have hglt := gst_lt m p y
      have HQ := hide (fun h => setC_zero (m := m) (p := p) (x := x) (s := 2) h)
      have HQR : Hid (setC m p x 2 = 0 → setR m p x 2 = setP p x 2) := fun h => by unfold setR; rw [if_pos h]
      have HST := hide (fun (hI : Idd m x) => gst_set (y := y) (v := 2) hpo hI (by omega))
      have HSX := hide (fun (hI : Idd m x) => gst_set (y := x) (v := 2) hpo hI (by omega))
      have HCS := hide (fun (hI : Idd m x) => cid_same (y := y) hMd (hpo.set hI (show 2 < 4 by omega)) hpo)
      obtain ⟨kq, hkq⟩ : ∃ k, setC m p x 2 = k := ⟨_, rfl⟩
      obtain ⟨q, hq⟩ : ∃ q, setR m p x 2 = q := ⟨_, rfl⟩
      obtain ⟨k1, hk1⟩ : ∃ k, cid m p y = k := ⟨_, rfl⟩
      obtain ⟨g1, hg1⟩ : ∃ k, gst m p y = k := ⟨_, rfl⟩
      simp only [hkq, hq] at HS2 HQ HQR hq01
      simp only [hk1, hg1] at HG1 hk01 HST HCS
      rw [hg1] at hglt
      have HPO := hide hpo
      have HPS := hide hps
      have HMD := hide hMd
      clear hkq hq hk1 hg1 e0 hpo hps hMd
      go_upto_region 12 with fail
      obtain ⟨zp0, zp1, zp2, zp3, zp4, zp5, zf0, zf1, zf2, zf3, zf4, zf5, zfl⟩ := HP_p.out.pag
      go_wp2_with fail
      refine (HG1.out _ _ _ _ HP_p.out.strs).mono ?_
      rintro e w2 ⟨rfl, ho⟩
      clear zp0 zf0 zp1 zf1 zp2 zf2 zp3 zf3 zp4 zf4 zp5 zf5 zfl
      have HP_p := hide (HP_p.out.more ho)
      have HO := hide (o2 HO.out ho)
      clear ho
      go_upto_region 13 with fail
      obtain ⟨zp0, zp1, zp2, zp3, zp4, zp5, zf0, zf1, zf2, zf3, zf4, zf5, zfl⟩ := HP_p.out.pag
      go_wp2_with fail
      refine (HS2.out _ _ _ _ HP_p.out.strs).mono ?_
      rintro e w3 ⟨B3, ao3, cp3, rfl, hS3, hF3, ho, hB3⟩
      clear zp0 zf0 zp1 zf1 zp2 zf2 zp3 zf3 zp4 zf4 zp5 zf5 zfl
      have HP_p := hide (HP_p.out.more ho)
      have HO := hide (o2 HO.out ho)
      have HP_q := hide (PgB.new hS3 hF3)
      have HN := hide (onlyA w3 (.cells #[.int .i64 q.lsn, .int .i64 q.kind, .int .i64 q.level, .int .i64 q.right, .string q.high, .slice ao3 q.items.length cp3] 24))
      have HD3 : Hid (b1 < w3.heap.size) := by unfold Hid; have := HP_p.out.pag.lt; omega
      clear hS3 hF3 hB3 ho
      go_upto_region 14 with fail
      obtain ⟨b3, hb⟩ : ∃ b, w3.heap.size = b := ⟨_, rfl⟩
      obtain ⟨W3, hW⟩ : ∃ W, w3.alloc (.cells #[.int .i64 q.lsn, .int .i64 q.kind, .int .i64 q.level, .int .i64 q.right, .string q.high, .slice ao3 q.items.length cp3] 24) = W := ⟨_, rfl⟩
      rw [hW] at HP_q HN ⊢
      rw [hb] at HP_q HD3 ⊢
      clear hW hb
      have HP_p := hide (HP_p.out.more HN.out)
      have HO := hide (o2 HO.out HN.out)
      by_cases h0 : kq = 0
      · subst h0
        obtain ⟨hI, _, _⟩ := HQ.out rfl
        have hqr := HQR.out rfl
        have HQO : Hid (OkP m q) := by unfold Hid; rw [hqr]; exact HPO.out.set hI (by omega)
        have c1 : cid m q x = 0 := cid_ok hI HQO.out
        have c2 : cid m q y = k1 := by rw [hqr]; exact HCS.out hI
        have c3 : gst m q x = 2 := by rw [hqr]; exact (HSX.out hI).1 (by trivial)
        have c4 : chk m q = 0 := chk_ok HMD.out HQO.out
        have c5 : (Pg.out q).2 = 0 := enc_code HMD.out HQO.out
        have c6 : x = y ∨ gst m q y = g1 := by rw [hqr]; exact (Classical.em (x = y)).imp id (HST.out hI).2
        have hg2 := gst_lt m q y
        have hqs : q.lsn = 0 := by rw [hqr]; exact HPS.out
        have hqh : q.high.size = 0 := by rw [HQO.out.high]; rfl
        have e0 : (⟨q.lsn, q.kind, q.level, q.right, q.high, q.items⟩ : Pg) = q := rfl
        have HA := hide (fun W B ao cp (hS : Strs W B ao q.items) => cget_any W m q.lsn q.kind q.level q.right x q.high cp B ao q.items HIM.out HX.out hS)
        have HB2 := hide (fun W B ao cp (hS : Strs W B ao q.items) => cget_any W m q.lsn q.kind q.level q.right y q.high cp B ao q.items HIM.out HY.out hS)
        have HE := hide (fun W B ao cp (hS : Strs W B ao q.items) => pencode_any W q.lsn q.kind q.level q.right q.high B cp ao q.items hS (by omega) (by omega))
        have HCK := hide (fun W B ao cp (hS : Strs W B ao q.items) => check_any W m q.lsn q.kind q.level q.right q.high cp B ao q.items HIM.out hS)
        simp only [e0, c1, c3] at HA
        simp only [e0, c2] at HB2
        simp only [e0, c5] at HE
        simp only [e0, c4] at HCK
        obtain ⟨g2, hgg⟩ : ∃ g, gst m q y = g := ⟨_, rfl⟩
        simp only [hgg] at HB2 c6 hg2
        clear hgg c1 c2 c3 c4 c5 e0 hI hqr hq01 hqs hqh
        obtain ⟨ES, hES⟩ : ∃ E, str (Pg.out q).1 = E := ⟨_, rfl⟩
        simp only [hES] at HE
        clear hES
        go_upto_region 16 with fail
        obtain ⟨zp0, zp1, zp2, zp3, zp4, zp5, zf0, zf1, zf2, zf3, zf4, zf5, zfl⟩ := HP_q.out.pag
        go_wp2_with fail
        refine (HA.out _ _ _ _ HP_q.out.strs).mono ?_
        rintro e w4 ⟨rfl, ho⟩
        clear zp0 zf0 zp1 zf1 zp2 zf2 zp3 zf3 zp4 zf4 zp5 zf5 zfl
        have HP_p := hide (HP_p.out.more ho)
        have HP_q := hide (HP_q.out.more ho)
        have HO := hide (o2 HO.out ho)
        clear ho
        go_upto_region 17 with fail
        obtain ⟨zp0, zp1, zp2, zp3, zp4, zp5, zf0, zf1, zf2, zf3, zf4, zf5, zfl⟩ := HP_q.out.pag
        go_wp2_with fail
        refine (HB2.out _ _ _ _ HP_q.out.strs).mono ?_
        rintro e w5 ⟨rfl, ho⟩
        clear zp0 zf0 zp1 zf1 zp2 zf2 zp3 zf3 zp4 zf4 zp5 zf5 zfl
        have HP_p := hide (HP_p.out.more ho)
        have HP_q := hide (HP_q.out.more ho)
        have HO := hide (o2 HO.out ho)
        clear ho
        go_upto_region 18 with fail
        obtain ⟨zp0, zp1, zp2, zp3, zp4, zp5, zf0, zf1, zf2, zf3, zf4, zf5, zfl⟩ := HP_q.out.pag
        go_wp2_with fail
        refine (HE.out _ _ _ _ HP_q.out.strs).mono ?_
        rintro e w6 ⟨rfl, ho⟩
        clear zp0 zf0 zp1 zf1 zp2 zf2 zp3 zf3 zp4 zf4 zp5 zf5 zfl
        have HP_p := hide (HP_p.out.more ho)
        have HP_q := hide (HP_q.out.more ho)
        have HO := hide (o2 HO.out ho)
        clear ho
        go_upto_region 19 with fail
        obtain ⟨zp0, zp1, zp2, zp3, zp4, zp5, zf0, zf1, zf2, zf3, zf4, zf5, zfl⟩ := HP_p.out.pag
        go_wp2_with fail
        refine (HG1.out _ _ _ _ HP_p.out.strs).mono ?_
        rintro e w7 ⟨rfl, ho⟩
        clear zp0 zf0 zp1 zf1 zp2 zf2 zp3 zf3 zp4 zf4 zp5 zf5 zfl
        have HP_p := hide (HP_p.out.more ho)
        have HP_q := hide (HP_q.out.more ho)
        have HO := hide (o2 HO.out ho)
        clear ho
        go_upto_region 20 with fail
        obtain ⟨zp0, zp1, zp2, zp3, zp4, zp5, zf0, zf1, zf2, zf3, zf4, zf5, zfl⟩ := HP_q.out.pag
        have hkk : k1 = 0 ∨ k1 = 1 := hk01
        by_cases hxy : x = y
        · subst hxy
          clear c6
          go_wp2_with fail
          refine (HCK.out _ _ _ _ HP_q.out.strs).mono ?_
          rintro e w8 ⟨rfl, ho⟩
          have HO := hide (o2 HO.out ho)
          clear ho
          go_wp2_with fail
          refine (cawake_any _).mono ?_
          rintro e w9 ⟨rfl, ho⟩
          have HO := hide (o2 HO.out ho)
          clear ho
          go_wp2_with fail
          go_ret
          exact ⟨rfl, HO.out⟩
        · have hgg : g2 = g1 := c6.resolve_left hxy
          subst hgg
          clear c6
          go_wp2_with fail
          refine (HCK.out _ _ _ _ HP_q.out.strs).mono ?_
          rintro e w8 ⟨rfl, ho⟩
          have HO := hide (o2 HO.out ho)
          clear ho
          go_wp2_with fail
          refine (cawake_any _).mono ?_
          rintro e w9 ⟨rfl, ho⟩
          have HO := hide (o2 HO.out ho)
          clear ho
          go_wp2_with fail
          go_ret
          exact ⟨rfl, HO.out⟩
      · have h1 : kq = 1 := by omega
        subst h1
        clear h0 hq01
        go_wp2_with fail
        refine (cawake_any _).mono ?_
        rintro e w9 ⟨rfl, ho⟩
        have HO := hide (o2 HO.out ho)
        clear ho
        go_wp2_with fail
        go_ret
        exact ⟨rfl, HO.out⟩
set_option maxRecDepth 100000 in
set_option maxHeartbeats 800000 in
theorem keeps_bad (w : World) (m x y : Int) (aO : Option Addr) (n cap : Nat) (hm : I64 m) (hM : ¬ Idd m 1) :
    Calls Try.prog 5 #[.int .i64 m, .slice aO n cap, .agg #[.int .i64 x, .int .i64 y]] w fun e w' => e = .returned (.bool true) ∧ Only (fun _ => False) w w' := by
  have HB := hide (fun W => cblank_err W m 1 hm ⟨by omega, by omega⟩ hM)
  have HO := hide (onlyA w (.cells #[.int .i64 x, .int .i64 y] 44))
  have hm1 := hm.1
  have hm2 := hm.2
  clear hm hM
  go_enter Try.func5, Try.ntmps5
  go_wp2_with fail
  refine (HB.out _).mono ?_
  rintro e w1 ⟨B1, ao1, cp1, rfl, hS1, hF1, ho, hB1⟩
  simp only [Pg.none] at hS1 hF1 ⊢
  have HO := hide (o2 (o2 HO.out ho) (onlyA w1 (.cells #[.int .i64 0, .int .i64 0, .int .i64 0, .int .i64 0, .string ⟨#[]⟩, .slice ao1 ([] : List ByteArray).length cp1] 24)))
  simp only [List.length_nil] at HO ⊢
  clear hS1 hF1 hB1 ho
  go_wp2_with fail
  refine (cawake_any _).mono ?_
  rintro e w9 ⟨rfl, ho⟩
  have HO := hide (o2 HO.out ho)
  clear ho
  go_wp2_with fail
  go_ret
  exact ⟨rfl, HO.out⟩
theorem keeps_law (w : World) (m x y : Int) (BO : Nat) (aO : Option Addr) (n cap : Nat) (C : Nat → Bool) (X : Nat → Int) (S : Nat → Nat) (hm : I64 m) (hx : I64 x) (hy : I64 y) (hI : Ops w BO aO n C X S) :
    Calls Try.prog 5 #[.int .i64 m, .slice aO n cap, .agg #[.int .i64 x, .int .i64 y]] w fun e w' => e = .returned (.bool true) ∧ Only (fun _ => False) w w' := by
  by_cases hM : Idd m 1
  · exact keeps_ok w m x y BO aO n cap C X S hM hx hy hI
  · exact keeps_bad w m x y aO n cap hm hM
end Go.Proofs.Ytcpgflkjeglgbaa
