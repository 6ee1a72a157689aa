/- For any list of records, any place to recycle to and any place that is asked for the statement WalGets returns true: each record from the start on is got as it was appended, and nothing else; no condition on them. Go's own tables of the library hold what they are laid with. -/
import Derived.Test.YtcbdpdkmkncffaaGreatDoorMQL
import Derived.Test.YtcbdpdkmkncffaaGreatDoorMO
namespace Go.Proofs.YtcbdpdkmkncffaaGreatDoor
open Go.RowKit

theorem yieldsIf_load_rc {ops : Array Oper} {S : World → Prop} {op : Oper} {a : Act} (hw : Region.wanted op (yielded ops a.tmps) = true) (x : Operand) (ho : op.op = .load 37 x)
    (b o : Nat) (hx : a.eval x = .pointer (some ⟨b, o, none⟩)) (z : Lr) (hS : ∀ w, S w → w.rangeAt b o (rcl z)) : YieldsIf Tryz.prog ops S op (.agg (z.1.cells z.2)) a :=
  yieldsIf_load_mid hw 37 x ho b o hx (rcl z) _ hS Tryz.underlying37 rfl Tryz.sizeRec
set_option maxRecDepth 100000 in
set_option maxHeartbeats 6400000 in
theorem wgets_law (w : World) (B cp : Nat) (ao : Option Addr) (L : List Lr) (hR : Rls w B ao L) (tt at_ : Int) (ht : -9223372036854775808 ≤ tt ∧ tt < 9223372036854775808) (ha : -9223372036854775808 ≤ at_ ∧ at_ < 9223372036854775808) : Calls Tryz.prog 5 #[.slice ao L.length cp, .int .i64 tt, .int .i64 at_] w fun e w' => e = .returned (.bool true) ∧ Only (fun _ => False) w w' := by
  have hlen : L.length ≤ 1000000000000 := by have := hR.len; omega
  have HR := hide hR
  have HTO := hide ht
  have HAT := hide ha
  clear hR ht ha
  go_enter Tryz.func5, Tryz.ntmps5
  go_wp2_with fail
  refine (wq_new w).mono ?_
  rintro e w1 ⟨d, g, m, rfl, hD, ho, h1, h2, h3, h4, h5, h6⟩
  have HF := hide (wq_format hD ho h1 h2 h3 h4 h5 h6)
  clear hD ho h1 h2 h3 h4 h5 h6
  go_wp2_with fail
  refine HF.out.mono ?_
  rintro e w2 ⟨l, rfl, hx⟩
  have HS0 := hide hx
  clear hx HF
  go_wp2_with fail
  go_loopw [11, 12] (fun v y wr => ∃ (i F : Nat) (rs : List Rc), i ≤ L.length ∧ y = .int .i64 (i : Int) ∧ Hid (Wq w wr l v F rs rs)) (fun _ y _ => L.length - (intOf y).toNat)
  case atStart => exact ⟨0, 1, [], by omega, rfl, HS0⟩
  case round =>
    obtain ⟨i, F, rs, hi, rfl, HS⟩ := hrel
    clear HS0
    by_cases hlt : i < L.length
    · obtain ⟨o, e1, hc⟩ := (HR.out.more HS.out.only).at_ (by omega)
      subst e1
      have HRN := hide (hc i hlt)
      have HRC := hide (HR.out.each L[i] (List.getElem_mem hlt))
      obtain ⟨z, hz⟩ : ∃ z, L[i] = z := ⟨_, rfl⟩
      rw [hz] at HRN HRC
      clear hc hz
      have hil : (i : Int) < (L.length : Int) := by omega
      go_upto_region 11 with fail
      go_upto_region 12 with (refine wpList_load_rc rfl (.tmp 53) rfl B (o + i * 16) rfl z HRN.out ?_; go_frame)
      obtain ⟨b, hb⟩ : ∃ b, wr.heap.size = b := ⟨_, rfl⟩
      obtain ⟨W1, hW1⟩ : ∃ W, wr.alloc (.cells #[.int .i64 z.1.lsn, .int .i64 z.1.prev, .int .i64 z.1.next, .int .u8 z.1.kind, .int .i64 z.1.xid, .int .i64 z.1.page, .int .i64 z.1.slot, .int .i64 z.1.old, .int .i64 z.1.new, .int .i64 z.1.redo, .string z.1.data, .slice z.2.a1 z.1.slots.length z.2.c1, .slice z.2.a2 z.1.more.length z.2.c2, .slice z.2.a3 z.1.images.length z.2.c3, .slice z.2.a4 z.1.pages.length z.2.c4, .slice z.2.a5 z.1.txns.length z.2.c5] 37) = W := ⟨_, rfl⟩
      have hW1' : wr.alloc (.cells (z.1.cells z.2) 37) = W1 := hW1
      have hoA : Only (fun _ => False) wr W1 := by rw [← hW1']; exact onlyA _ _
      have HRG : Hid (W1.rangeAt b 0 (z.1.cl z.2)) := by unfold Hid; rw [← hW1', ← hb]; exact range_new wr z.1 z.2
      have HSB : Hid (Wqb w W1 l u11 F rs rs b) := by
        unfold Hid
        rw [← hb]
        exact HS.out.box hoA (by rw [← hW1']; simp)
      have HFZ : Hid (W1.frozen? ⟨b, 0, none⟩ = false) := by unfold Hid; rw [← hW1', ← hb]; simp
      have HRC1 := hide (HRC.out.go (o2 HS.out.only hoA))
      have HB0 : Hid (w.heap.size ≤ b) := by unfold Hid; rw [← hb]; exact HS.out.only.size
      rw [hW1, hb]
      clear hW1 hW1' hb hoA HRN
      go_wp2_with (refine wpList_load_rec rfl (.tmp 13) rfl b rfl z.1 z.2 HRG.out ?_; go_frame)
      refine (wqb_app HSB.out z.1 z.2 HRC1.out).mono ?_
      rintro e w5 ⟨T, c, rs', rfl, hx, ho5, hor⟩
      have HS5 := hide hx
      have HOR := hide hor
      have HRG5 := hide (range_kept HRG.out ho5 (fun h => h rfl))
      have hfz : w5.frozen? ⟨b, 0, none⟩ = false := (ho5.frozen (p := ⟨b, 0, none⟩) HSB.out.1 (fun h => h rfl)).trans HFZ.out
      have HFZ5 := hide hfz
      clear hx hor ho5 hfz HRG HSB HFZ
      go_upto_if 62 with fail
      go_cut [11] (fun t wc => ∃ rs2, Hid (Wq w wc l t F rs2 rs2))
      case first =>
        rcases HOR.out with ⟨h0, hrs⟩ | ⟨h0, hrs⟩
        · subst h0
          subst hrs
          have hl2 := HS5.out.wq.len.1
          have c0 : w5.cell? ⟨b, 0, none⟩ = some (.int .i64 z.1.lsn) := by have := HRG5.out 0 _ rfl; rwa [Nat.zero_add] at this
          have f0 := HFZ5.out
          go_upto_region 15 with fail
          have HS6 := hide (HS5.out.set (Only.setCell (S := fun k => k = b) w5 ⟨b, 0, none⟩ (.int .i64 T) rfl)).wq
          have HRG6 := hide (range_lsn HRG5.out T)
          obtain ⟨W6, hW6⟩ : ∃ W, w5.setCell ⟨b, 0, none⟩ (.int .i64 T) = W := ⟨_, rfl⟩
          rw [hW6] at HS6 HRG6 ⊢
          clear hW6 c0 f0 HS5 HRG5 HFZ5 HOR
          have hl3 : rs.length ≤ 20000 := by rw [List.length_append] at hl2; omega
          obtain ⟨v7, w7, hr7, hq7⟩ := wq_list HS6.out (z.1.at_ T, z.2) (HRC.out.at_ T) hl3
          have HR7 := hide hr7
          have HQ7 := hide hq7
          clear hr7 hq7 hl2 hl3
          go_wp2_with (first
            | (refine wpList_load_rec rfl (.tmp 13) rfl b rfl (z.1.at_ T) z.2 HRG6.out ?_; go_frame)
            | (at_builtin; go_must (refine Lib.wpList_append_run _ rfl _ _ _ _ rfl _ _ rfl rfl _ _ HR7.out ?_)))
          go_meet
          exact ⟨_, HQ7⟩
        · subst hrs
          go_wp2_with fail
          go_meet
          exact ⟨_, HS5.out.wq⟩
      case rest =>
        obtain ⟨rs2, HS2⟩ := hcut
        clear HS5 HOR HRG5 HFZ5 HRC HRC1 HB0
        by_cases hq : (i : Int) = (L.length : Int) / 2
        · have hqb : ((i : Int) == (L.length : Int) / 2) = true := by simp [hq]
          have HQQ := hide hq
          clear hq
          go_wp2_with fail
          refine (wq_tail HS2.out).mono ?_
          rintro e w8 ⟨rfl, hw8⟩
          obtain rfl := hw8.symm
          clear hw8
          go_wp2_with fail
          refine (wq_flush HS2.out).mono ?_
          rintro e w9 ⟨rfl, F', hx⟩
          have HS9 := hide hx
          clear hx
          go_wp2_with fail
          go_roundw
          case rel => exact ⟨i + 1, F', rs2, by omega, by go_num, HS9⟩
          case measure => simp [intOf]; omega
        · have hqb : ((i : Int) == (L.length : Int) / 2) = false := by simp [hq]
          clear hq
          go_wp2_with fail
          go_roundw
          case rel => exact ⟨i + 1, F, rs2, by omega, by go_num, HS2⟩
          case measure => simp [intOf]; omega
    · have e : i = L.length := by omega
      subst e
      obtain ⟨hn1, hn2, hn3, hls⟩ := HS.out.len
      obtain ⟨aX, cX, rfl, hgx⟩ := HS.out.slice_ hn1
      have HGX := hide hgx
      have HLS := hide hls
      clear hgx hls hn3
      go_upto_if 83 with fail
      go_cut [11] (fun t wc => ∃ rs2, Hid (Pq w wc l t rs2))
      case first =>
        by_cases h0 : 0 < rs.length
        · obtain ⟨gX, rfl, hcx1, hcx2⟩ := HGX.out h0
          obtain ⟨R, k, hR, hK, hk, hR1, hR2⟩ := pick_idx tt rs.length h0 hn1
          obtain ⟨L8, hrk⟩ := HS.out.at_ k hk
          have HRK := hide hrk
          have HLK := hide (HLS.out k hk)
          obtain ⟨x, hx⟩ : ∃ x : Nat, tk 1 rs k = x := ⟨_, rfl⟩
          have hck : ¬ cX = k := by omega
          have hkl : (k : Int) < (rs.length : Int) := by omega
          have hn1' : (rs.length : Int) ≤ 10693 := by omega
          have h0' : (0 : Int) < (rs.length : Int) := by omega
          have t1 := HTO.out.1
          have t2 := HTO.out.2
          go_upto_region 20 with fail
          clear t1 t2 hR hK hR1 hR2
          have hcell : Hid (wr.cell? ⟨gX, k * 16 + 0, none⟩ = some (.int .i64 (x : Int))) := by
            have := HRK.out 0 _ rfl
            have e : rs[k].lsn = (x : Int) := by rw [← hx]; exact HLK.out
            rw [← e]
            exact this
          have HLTG : Hid (gX < wr.heap.size) := World.block_lt_of_cell? wr _ hcell.out
          by_cases hxF : x ≤ F
          · have hxF' : (x : Int) ≤ (F : Int) := by omega
            go_cut [17] (fun t wc => t = .bool true ∧ Hid (Only (fun _ => False) wr wc))
            case first =>
              refine wp_region_noPanic ?_
              refine wp_region_held_drew (S := fun W => Only (fun _ => False) wr W) (by kernel_rfl) (Only.drew _ wr) (fun hHeld => ?_)
              refine wpAnyH_take (i := 0) (oi := { dst := some 94, op := Op.move (Operand.tmp 11), type := 49, pos := "law.go:278", after := #[], guard := none }) (v := .slice (some ⟨gX, 0, none⟩) rs.length cX) rfl (by kernel_rfl) (by kernel_rfl) (by kernel_rfl) (fun _ _ _ h => h) (Or.inl ⟨by rfl, fun w' hSw => by clear hSw; go_simp⟩) (by assumption) ?_
              simp only [Act.put, List.setIfInBounds_toArray, List.set_cons_zero, List.set_cons_succ]
              refine wpAnyH_take (i := 1) (oi := { dst := some 95, op := Op.move (Operand.tmp 16), type := 3, pos := "law.go:278", after := #[], guard := none }) (v := .int .i64 (k : Int)) rfl (by kernel_rfl) (by kernel_rfl) (by kernel_rfl) (fun _ _ _ h => h) (Or.inl ⟨by rfl, fun w' hSw => by clear hSw; go_simp⟩) (by assumption) ?_
              simp only [Act.put, List.setIfInBounds_toArray, List.set_cons_zero, List.set_cons_succ]
              refine wpAnyH_take (i := 5) (oi := { dst := some 99, op := Op.move (Operand.tmp 9), type := 27, pos := "law.go:278", after := #[], guard := none }) (v := .pointer (some ⟨l, 0, none⟩)) rfl (by kernel_rfl) (by kernel_rfl) (by kernel_rfl) (fun _ _ _ h => h) (Or.inl ⟨by rfl, fun w' hSw => by clear hSw; go_simp⟩) (by assumption) ?_
              simp only [Act.put, List.setIfInBounds_toArray, List.set_cons_zero, List.set_cons_succ]
              refine wpAnyH_take (i := 2) (oi := { dst := some 96, op := Op.indexAddr 49 (Operand.tmp 94) (Operand.tmp 95), type := 0, pos := "law.go:278", after := #[{ on := 0, ground := Ground.data }, { on := 1, ground := Ground.data }], guard := none }) (v := .pointer (some ⟨gX, k * 16, none⟩)) rfl (by kernel_rfl) (by kernel_rfl) (by kernel_rfl) (fun _ _ _ h => h) (Or.inl ⟨by rfl, fun w' hSw => by clear hSw; go_simp⟩) (by assumption) ?_
              simp only [Act.put, List.setIfInBounds_toArray, List.set_cons_zero, List.set_cons_succ]
              refine wpAnyH_take (i := 3) (oi := { dst := some 97, op := Op.fieldAddr 37 (Operand.tmp 96) 0, type := 0, pos := "law.go:278", after := #[{ on := 2, ground := Ground.data }], guard := none }) (v := .pointer (some ⟨gX, k * 16 + 0, none⟩)) rfl (by kernel_rfl) (by kernel_rfl) (by kernel_rfl) (fun _ _ _ h => h) (Or.inl ⟨by rfl, fun w' hSw => by clear hSw; go_simp⟩) (by assumption) ?_
              simp only [Act.put, List.setIfInBounds_toArray, List.set_cons_zero, List.set_cons_succ]
              refine wpAnyH_take (i := 4) (oi := { dst := some 98, op := Op.load 3 (Operand.tmp 97), type := 3, pos := "law.go:278", after := #[{ on := 3, ground := Ground.data }], guard := none }) (v := .int .i64 (x : Int)) rfl (by kernel_rfl) (by kernel_rfl) (by kernel_rfl) (fun _ _ _ h => h) (yieldsIf_load_cell (by rfl) 3 _ rfl _ rfl (fun W hW => (hW.cell (p := ⟨gX, k * 16 + 0, none⟩) HLTG.out (fun h => h)).trans hcell.out) (fun W hc => ld_int hc)) (by assumption) ?_
              simp only [Act.put, List.setIfInBounds_toArray, List.set_cons_zero, List.set_cons_succ]
              refine wpAnyH_ready (rs := [6]) (by kernel_rfl) (by simp) ?_
              refine AllReadyH.cons (o := { dst := some 100, op := Op.call { callee := Callee.value (Operand.func 19), args := #[Operand.tmp 99], argTypes := #[27] }, type := 3, pos := "law.go:278", after := #[{ on := 5, ground := Ground.data }], guard := none }) rfl (fun K hK => ?_) (AllReadyH.nil)
              go_simp
              refine (wq_flushed (HS.out.more (Only.drew _ wr))).mono ?_
              rintro e x1 ⟨rfl, hw⟩
              have HS1 : Hid (Only (fun _ => False) wr x1) := by rw [hw]; exact Only.drew _ wr
              clear hw
              refine hK.out _ _ (HS1.out) (fun hHeld => ?_)
              clear hK K
              try simp only [Act.put, List.setIfInBounds_toArray, List.set_cons_zero, List.set_cons_succ]
              refine wpAnyH_take (i := 7) (oi := { dst := some 101, op := Op.binOp BinOp.leq 3 (Operand.tmp 98) (Operand.tmp 100) 3, type := 4, pos := "law.go:278", after := #[{ on := 4, ground := Ground.data }, { on := 6, ground := Ground.data }], guard := none }) (v := .bool true) rfl (by kernel_rfl) (by kernel_rfl) (by kernel_rfl) (fun _ _ _ h => h) (Or.inl ⟨by rfl, fun w' hSw => by clear hSw; go_simp⟩) (by assumption) ?_
              simp only [Act.put, List.setIfInBounds_toArray, List.set_cons_zero, List.set_cons_succ]
              refine wpAnyH_take (i := 8) (oi := { dst := some 17, op := Op.assign (Operand.tmp 101), type := 4, pos := "law.go:278", after := #[{ on := 7, ground := Ground.data }, { on := 6, ground := Ground.chain }, { on := 0, ground := Ground.phase }, { on := 1, ground := Ground.phase }, { on := 2, ground := Ground.phase }, { on := 3, ground := Ground.phase }, { on := 4, ground := Ground.phase }, { on := 5, ground := Ground.phase }, { on := 6, ground := Ground.phase }, { on := 7, ground := Ground.phase }], guard := none }) (v := .bool true) rfl (by kernel_rfl) (by kernel_rfl) (by kernel_rfl) (fun _ _ _ h => h) (Or.inl ⟨by rfl, fun w' hSw => by clear hSw; go_simp⟩) (by assumption) ?_
              simp only [Act.put, List.setIfInBounds_toArray, List.set_cons_zero, List.set_cons_succ]
              refine wpAnyH_done (by kernel_rfl) ?_ _
              refine NoPanic.normal ?_
              go_wp2_with fail
              go_meet
              exact ⟨rfl, HS1⟩
            case rest =>
              obtain ⟨rfl, HC⟩ := hcut
              have HW := hide (HS.out.more HC.out)
              have hcw : wc.cell? ⟨gX, k * 16, none⟩ = some (.int .i64 (x : Int)) := (HC.out.cell (p := ⟨gX, k * 16, none⟩) HLTG.out (fun h => h)).trans hcell.out
              have hcr := wq_recycle_ok HW.out k hk (by rw [hx]; exact hxF)
              rw [hx] at hcr
              have HCR := hide hcr
              clear hcr hxF hxF' hcell HS
              go_wp2_with fail
              refine HCR.out.mono ?_
              rintro e w6 ⟨rfl, hp⟩
              have HP := hide hp
              clear hp hcw
              go_wp2_with fail
              go_meet
              exact ⟨_, HP⟩
          · have hxF' : ¬ (x : Int) ≤ (F : Int) := by omega
            have hxF2 : (F : Int) < (x : Int) := by omega
            go_cut [17] (fun t wc => t = .bool false ∧ Hid (Only (fun _ => False) wr wc))
            case first =>
              refine wp_region_noPanic ?_
              refine wp_region_held_drew (S := fun W => Only (fun _ => False) wr W) (by kernel_rfl) (Only.drew _ wr) (fun hHeld => ?_)
              refine wpAnyH_take (i := 0) (oi := { dst := some 94, op := Op.move (Operand.tmp 11), type := 49, pos := "law.go:278", after := #[], guard := none }) (v := .slice (some ⟨gX, 0, none⟩) rs.length cX) rfl (by kernel_rfl) (by kernel_rfl) (by kernel_rfl) (fun _ _ _ h => h) (Or.inl ⟨by rfl, fun w' hSw => by clear hSw; go_simp⟩) (by assumption) ?_
              simp only [Act.put, List.setIfInBounds_toArray, List.set_cons_zero, List.set_cons_succ]
              refine wpAnyH_take (i := 1) (oi := { dst := some 95, op := Op.move (Operand.tmp 16), type := 3, pos := "law.go:278", after := #[], guard := none }) (v := .int .i64 (k : Int)) rfl (by kernel_rfl) (by kernel_rfl) (by kernel_rfl) (fun _ _ _ h => h) (Or.inl ⟨by rfl, fun w' hSw => by clear hSw; go_simp⟩) (by assumption) ?_
              simp only [Act.put, List.setIfInBounds_toArray, List.set_cons_zero, List.set_cons_succ]
              refine wpAnyH_take (i := 5) (oi := { dst := some 99, op := Op.move (Operand.tmp 9), type := 27, pos := "law.go:278", after := #[], guard := none }) (v := .pointer (some ⟨l, 0, none⟩)) rfl (by kernel_rfl) (by kernel_rfl) (by kernel_rfl) (fun _ _ _ h => h) (Or.inl ⟨by rfl, fun w' hSw => by clear hSw; go_simp⟩) (by assumption) ?_
              simp only [Act.put, List.setIfInBounds_toArray, List.set_cons_zero, List.set_cons_succ]
              refine wpAnyH_take (i := 2) (oi := { dst := some 96, op := Op.indexAddr 49 (Operand.tmp 94) (Operand.tmp 95), type := 0, pos := "law.go:278", after := #[{ on := 0, ground := Ground.data }, { on := 1, ground := Ground.data }], guard := none }) (v := .pointer (some ⟨gX, k * 16, none⟩)) rfl (by kernel_rfl) (by kernel_rfl) (by kernel_rfl) (fun _ _ _ h => h) (Or.inl ⟨by rfl, fun w' hSw => by clear hSw; go_simp⟩) (by assumption) ?_
              simp only [Act.put, List.setIfInBounds_toArray, List.set_cons_zero, List.set_cons_succ]
              refine wpAnyH_take (i := 3) (oi := { dst := some 97, op := Op.fieldAddr 37 (Operand.tmp 96) 0, type := 0, pos := "law.go:278", after := #[{ on := 2, ground := Ground.data }], guard := none }) (v := .pointer (some ⟨gX, k * 16 + 0, none⟩)) rfl (by kernel_rfl) (by kernel_rfl) (by kernel_rfl) (fun _ _ _ h => h) (Or.inl ⟨by rfl, fun w' hSw => by clear hSw; go_simp⟩) (by assumption) ?_
              simp only [Act.put, List.setIfInBounds_toArray, List.set_cons_zero, List.set_cons_succ]
              refine wpAnyH_take (i := 4) (oi := { dst := some 98, op := Op.load 3 (Operand.tmp 97), type := 3, pos := "law.go:278", after := #[{ on := 3, ground := Ground.data }], guard := none }) (v := .int .i64 (x : Int)) rfl (by kernel_rfl) (by kernel_rfl) (by kernel_rfl) (fun _ _ _ h => h) (yieldsIf_load_cell (by rfl) 3 _ rfl _ rfl (fun W hW => (hW.cell (p := ⟨gX, k * 16 + 0, none⟩) HLTG.out (fun h => h)).trans hcell.out) (fun W hc => ld_int hc)) (by assumption) ?_
              simp only [Act.put, List.setIfInBounds_toArray, List.set_cons_zero, List.set_cons_succ]
              refine wpAnyH_ready (rs := [6]) (by kernel_rfl) (by simp) ?_
              refine AllReadyH.cons (o := { dst := some 100, op := Op.call { callee := Callee.value (Operand.func 19), args := #[Operand.tmp 99], argTypes := #[27] }, type := 3, pos := "law.go:278", after := #[{ on := 5, ground := Ground.data }], guard := none }) rfl (fun K hK => ?_) (AllReadyH.nil)
              go_simp
              refine (wq_flushed (HS.out.more (Only.drew _ wr))).mono ?_
              rintro e x1 ⟨rfl, hw⟩
              have HS1 : Hid (Only (fun _ => False) wr x1) := by rw [hw]; exact Only.drew _ wr
              clear hw
              refine hK.out _ _ (HS1.out) (fun hHeld => ?_)
              clear hK K
              try simp only [Act.put, List.setIfInBounds_toArray, List.set_cons_zero, List.set_cons_succ]
              refine wpAnyH_take (i := 7) (oi := { dst := some 101, op := Op.binOp BinOp.leq 3 (Operand.tmp 98) (Operand.tmp 100) 3, type := 4, pos := "law.go:278", after := #[{ on := 4, ground := Ground.data }, { on := 6, ground := Ground.data }], guard := none }) (v := .bool false) rfl (by kernel_rfl) (by kernel_rfl) (by kernel_rfl) (fun _ _ _ h => h) (Or.inl ⟨by rfl, fun w' hSw => by clear hSw; go_simp⟩) (by assumption) ?_
              simp only [Act.put, List.setIfInBounds_toArray, List.set_cons_zero, List.set_cons_succ]
              refine wpAnyH_take (i := 8) (oi := { dst := some 17, op := Op.assign (Operand.tmp 101), type := 4, pos := "law.go:278", after := #[{ on := 7, ground := Ground.data }, { on := 6, ground := Ground.chain }, { on := 0, ground := Ground.phase }, { on := 1, ground := Ground.phase }, { on := 2, ground := Ground.phase }, { on := 3, ground := Ground.phase }, { on := 4, ground := Ground.phase }, { on := 5, ground := Ground.phase }, { on := 6, ground := Ground.phase }, { on := 7, ground := Ground.phase }], guard := none }) (v := .bool false) rfl (by kernel_rfl) (by kernel_rfl) (by kernel_rfl) (fun _ _ _ h => h) (Or.inl ⟨by rfl, fun w' hSw => by clear hSw; go_simp⟩) (by assumption) ?_
              simp only [Act.put, List.setIfInBounds_toArray, List.set_cons_zero, List.set_cons_succ]
              refine wpAnyH_done (by kernel_rfl) ?_ _
              refine NoPanic.normal ?_
              go_wp2_with fail
              go_meet
              exact ⟨rfl, HS1⟩
            case rest =>
              obtain ⟨rfl, HC⟩ := hcut
              have HW := hide (HS.out.more HC.out)
              have hcw : wc.cell? ⟨gX, k * 16, none⟩ = some (.int .i64 (x : Int)) := (HC.out.cell (p := ⟨gX, k * 16, none⟩) HLTG.out (fun h => h)).trans hcell.out
              have HCR := hide (wq_recycle_no HW.out (x : Int) hxF2)
              clear hxF hxF' hxF2 hcell HS
              go_wp2_with fail
              refine HCR.out.mono ?_
              rintro e w6 ⟨rfl, hp⟩
              have HP := hide (wq_pq hp)
              clear hp hcw
              go_wp2_with fail
              go_meet
              exact ⟨_, HP⟩
        · have e0 : rs.length = 0 := by omega
          have HP := hide (wq_pq HS.out)
          go_wp2_with fail
          go_meet
          exact ⟨_, HP⟩
      case rest =>
        obtain ⟨rs2, HP⟩ := hcut
        obtain ⟨aY, cY, rfl, hm1⟩ := HP.out.slice_
        clear HS HGX HLS hn1 hn2
        go_wp2_with fail
        go_loopw [18, 19] (fun t y wr2 => ∃ (i : Nat) (b : Bool), i ≤ rs2.length ∧ y = .int .i64 (i : Int) ∧ t = .bool b ∧ Hid (b = true ↔ at_ ∈ (rs2.take i).map (fun r => r.lsn)) ∧ Hid (Pq w wr2 l (.slice aY rs2.length cY) rs2)) (fun _ y _ => rs2.length - (intOf y).toNat)
        case atStart => exact ⟨0, false, by omega, rfl, rfl, by unfold Hid; simp, HP⟩
        case round =>
          obtain ⟨i, b, hi, rfl, rfl, HQ, HPR⟩ := hrel
          clear HP
          by_cases hlt : i < rs2.length
          · obtain ⟨BY, oY, cY', L8, hv, hr, hat⟩ := HPR.out.at_ i hlt
            injection hv with hv1 _ hv3
            subst hv1
            subst hv3
            have hG := pq_get HPR.out i hlt
            obtain ⟨R, hRR⟩ : ∃ R, rs2[i] = R := ⟨_, rfl⟩
            have HT : Hid (rs2.take (i + 1) = rs2.take i ++ [R]) := by unfold Hid; rw [List.take_succ_eq_append_getElem hlt, hRR]
            rw [hRR] at hG hr hat
            have c0 : wr.cell? ⟨BY, oY + i * 16, none⟩ = some (.int .i64 R.lsn) := hr 0 _ rfl
            have HG := hide hG
            have HRY := hide hr
            have HAY := hide (hat.go HPR.out.only)
            have hil : (i : Int) < (rs2.length : Int) := by omega
            clear hRR hG hr hat
            go_wp2_with fail
            refine HG.out.mono ?_
            rintro e w9 ⟨L9, rfl, h9, ho9⟩
            obtain ⟨bq, hbq⟩ : ∃ b, w9.heap.size = b := ⟨_, rfl⟩
            obtain ⟨W10, hW10⟩ : ∃ W, w9.alloc (.cells #[.int .i64 R.lsn, .int .i64 R.prev, .int .i64 R.next, .int .u8 R.kind, .int .i64 R.xid, .int .i64 R.page, .int .i64 R.slot, .int .i64 R.old, .int .i64 R.new, .int .i64 R.redo, .string R.data, .slice L9.a1 R.slots.length L9.c1, .slice L9.a2 R.more.length L9.c2, .slice L9.a3 R.images.length L9.c3, .slice L9.a4 R.pages.length L9.c4, .slice L9.a5 R.txns.length L9.c5] 37) = W := ⟨_, rfl⟩
            have hW10' : w9.alloc (.cells (R.cells L9) 37) = W10 := hW10
            have hoA : Only (fun _ => False) w9 W10 := by rw [← hW10']; exact onlyA _ _
            have HO10 := hide (o2 ho9 hoA)
            have HRG : Hid (W10.rangeAt bq 0 (rcl (R, L9))) := by unfold Hid; rw [← hW10', ← hbq]; exact range_new w9 R L9
            have H9 := hide (h9.go hoA)
            have H8 := hide (HAY.out.go HO10.out)
            have HRY := hide (range_go HRY.out HO10.out (fun h => h))
            have HP10 := hide (HPR.out.more HO10.out)
            clear h9 ho9 hoA hW10' c0 HG HAY HPR HO10
            go_upto_region 30 with fail
            clear hW10 hbq
            go_cut [142] (fun t wc => t = .bool false ∧ Hid (Only (fun _ => False) W10 wc))
            case first =>
              refine wp_region_noPanic ?_
              refine wp_region_held_drew (S := fun W => Only (fun _ => False) W10 W) (by kernel_rfl) (Only.drew _ W10) (fun hHeld => ?_)
              refine wpAnyH_take (i := 0) (oi := { dst := some 132, op := Op.move (Operand.tmp 21), type := 24, pos := "law.go:289", after := #[], guard := none }) (v := .int .i64 0) rfl (by kernel_rfl) (by kernel_rfl) (by kernel_rfl) (fun _ _ _ h => h) (Or.inl ⟨by rfl, fun w' hSw => by clear hSw; go_simp⟩) (by assumption) ?_
              simp only [Act.put, List.setIfInBounds_toArray, List.set_cons_zero, List.set_cons_succ]
              refine wpAnyH_take (i := 1) (oi := { dst := some 133, op := Op.binOp BinOp.neq 24 (Operand.tmp 132) (Operand.const (Value.int IntKind.i64 0)) 24, type := 4, pos := "law.go:289", after := #[{ on := 0, ground := Ground.data }], guard := none }) (v := .bool false) rfl (by kernel_rfl) (by kernel_rfl) (by kernel_rfl) (fun _ _ _ h => h) (Or.inl ⟨by rfl, fun w' hSw => by clear hSw; go_simp⟩) (by assumption) ?_
              simp only [Act.put, List.setIfInBounds_toArray, List.set_cons_zero, List.set_cons_succ]
              refine wpAnyH_take (i := 2) (oi := { dst := some 134, op := Op.move (Operand.tmp 133), type := 4, pos := "law.go:289", after := #[{ on := 1, ground := Ground.data }], guard := none }) (v := .bool false) rfl (by kernel_rfl) (by kernel_rfl) (by kernel_rfl) (fun _ _ _ h => h) (Or.inl ⟨by rfl, fun w' hSw => by clear hSw; go_simp⟩) (by assumption) ?_
              simp only [Act.put, List.setIfInBounds_toArray, List.set_cons_zero, List.set_cons_succ]
              refine wpAnyH_take (i := 3) (oi := { dst := some 135, op := Op.load 37 (Operand.tmp 20), type := 37, pos := "law.go:289", after := #[{ on := 2, ground := Ground.guard }], guard := some (2, false) }) (v := .agg (R.cells L9)) rfl (by kernel_rfl) (by kernel_rfl) (by kernel_rfl) (fun _ _ _ h => h) (yieldsIf_load_rc (by rfl) _ rfl bq 0 rfl (R, L9) (fun W hW => range_go HRG.out hW (fun h => h))) (by assumption) ?_
              simp only [Act.put, List.setIfInBounds_toArray, List.set_cons_zero, List.set_cons_succ]
              refine wpAnyH_take (i := 4) (oi := { dst := some 136, op := Op.move (Operand.tmp 11), type := 49, pos := "law.go:289", after := #[{ on := 2, ground := Ground.guard }], guard := some (2, false) }) (v := .slice (some ⟨BY, oY, none⟩) rs2.length cY) rfl (by kernel_rfl) (by kernel_rfl) (by kernel_rfl) (fun _ _ _ h => h) (Or.inl ⟨by rfl, fun w' hSw => by clear hSw; go_simp⟩) (by assumption) ?_
              simp only [Act.put, List.setIfInBounds_toArray, List.set_cons_zero, List.set_cons_succ]
              refine wpAnyH_take (i := 5) (oi := { dst := some 137, op := Op.move (Operand.tmp 19), type := 3, pos := "law.go:289", after := #[{ on := 2, ground := Ground.guard }], guard := some (2, false) }) (v := .int .i64 (i : Int)) rfl (by kernel_rfl) (by kernel_rfl) (by kernel_rfl) (fun _ _ _ h => h) (Or.inl ⟨by rfl, fun w' hSw => by clear hSw; go_simp⟩) (by assumption) ?_
              simp only [Act.put, List.setIfInBounds_toArray, List.set_cons_zero, List.set_cons_succ]
              refine wpAnyH_take (i := 6) (oi := { dst := some 138, op := Op.indexAddr 49 (Operand.tmp 136) (Operand.tmp 137), type := 0, pos := "law.go:289", after := #[{ on := 4, ground := Ground.data }, { on := 5, ground := Ground.data }, { on := 2, ground := Ground.guard }], guard := some (2, false) }) (v := .pointer (some ⟨BY, oY + i * 16, none⟩)) rfl (by kernel_rfl) (by kernel_rfl) (by kernel_rfl) (fun _ _ _ h => h) (Or.inl ⟨by rfl, fun w' hSw => by clear hSw; go_simp⟩) (by assumption) ?_
              simp only [Act.put, List.setIfInBounds_toArray, List.set_cons_zero, List.set_cons_succ]
              refine wpAnyH_take (i := 7) (oi := { dst := some 139, op := Op.load 37 (Operand.tmp 138), type := 37, pos := "law.go:289", after := #[{ on := 6, ground := Ground.data }, { on := 2, ground := Ground.guard }], guard := some (2, false) }) (v := .agg (R.cells L8)) rfl (by kernel_rfl) (by kernel_rfl) (by kernel_rfl) (fun _ _ _ h => h) (yieldsIf_load_rc (by rfl) _ rfl BY (oY + i * 16) rfl (R, L8) (fun W hW => range_go HRY.out hW (fun h => h))) (by assumption) ?_
              simp only [Act.put, List.setIfInBounds_toArray, List.set_cons_zero, List.set_cons_succ]
              refine wpAnyH_ready (rs := [8]) (by kernel_rfl) (by simp) ?_
              refine AllReadyH.cons (o := { dst := some 140, op := Op.call { callee := Callee.value (Operand.func 20), args := #[Operand.tmp 135, Operand.tmp 139], argTypes := #[37, 37] }, type := 4, pos := "law.go:289", after := #[{ on := 3, ground := Ground.data }, { on := 7, ground := Ground.data }, { on := 2, ground := Ground.chain }, { on := 2, ground := Ground.guard }], guard := some (2, false) }) rfl (fun K hK => ?_) (AllReadyH.nil)
              go_simp
              refine (zsame_any _ R R L9 L8 (H9.out.go (Only.drew _ W10)) (H8.out.go (Only.drew _ W10))).mono ?_
              rintro e x1 ⟨hb, ho⟩
              obtain ⟨c, rfl, hc⟩ := hb.ex
              obtain rfl : c = true := hc.2 rfl
              have HS1 : Hid (Only (fun _ => False) W10 x1) := o2 (Only.drew _ W10) ho
              clear ho hb hc
              refine hK.out _ _ (HS1.out) (fun hHeld => ?_)
              clear hK K
              try simp only [Act.put, List.setIfInBounds_toArray, List.set_cons_zero, List.set_cons_succ]
              refine wpAnyH_take (i := 9) (oi := { dst := some 141, op := Op.unOp UnOp.not 4 (Operand.tmp 140), type := 4, pos := "law.go:289", after := #[{ on := 8, ground := Ground.data }, { on := 2, ground := Ground.guard }], guard := some (2, false) }) (v := .bool false) rfl (by kernel_rfl) (by kernel_rfl) (by kernel_rfl) (fun _ _ _ h => h) (Or.inl ⟨by rfl, fun w' hSw => by clear hSw; go_simp⟩) (by assumption) ?_
              simp only [Act.put, List.setIfInBounds_toArray, List.set_cons_zero, List.set_cons_succ]
              refine wpAnyH_take (i := 10) (oi := { dst := some 142, op := Op.pick (Operand.tmp 134) (Operand.const (Value.bool true)) (Operand.tmp 141), type := 4, pos := "law.go:289", after := #[{ on := 2, ground := Ground.data }, { on := 9, ground := Ground.data }], guard := none }) (v := .bool false) rfl (by kernel_rfl) (by kernel_rfl) (by kernel_rfl) (fun _ _ _ h => h) (Or.inl ⟨by rfl, fun w' hSw => by clear hSw; go_simp⟩) (by assumption) ?_
              simp only [Act.put, List.setIfInBounds_toArray, List.set_cons_zero, List.set_cons_succ]
              refine wpAnyH_done (by kernel_rfl) ?_ _
              refine NoPanic.normal ?_
              go_wp2_with fail
              go_meet
              exact ⟨rfl, HS1⟩
            case rest =>
              obtain ⟨rfl, HC⟩ := hcut
              have HP11 := hide (HP10.out.more HC.out)
              have HRY := hide (range_go HRY.out HC.out (fun h => h))
              have c0 : wc.cell? ⟨BY, oY + i * 16, none⟩ = some (.int .i64 R.lsn) := HRY.out 0 _ rfl
              clear HP10 H9 H8 HRG HC
              cases b with
              | true =>
                have HYS : Hid (at_ ∈ (rs2.take i).map (fun r => r.lsn)) := HQ.out.1 rfl
                clear HQ
                go_wp2_with fail
                go_roundw
                case rel => exact ⟨i + 1, true, by omega, by go_num, rfl, by unfold Hid; rw [HT.out, List.map_append]; simp only [true_iff]; exact List.mem_append.2 (.inl HYS.out), HP11⟩
                case measure => simp [intOf]; omega
              | false =>
                have HNO : Hid (at_ ∉ (rs2.take i).map (fun r => r.lsn)) := fun hh => by have := HQ.out.2 hh; cases this
                clear HQ
                by_cases he : R.lsn = at_
                · have g : (R.lsn == at_) = true := by simp [he]
                  have HE := hide he
                  clear he
                  go_wp2_with fail
                  go_roundw
                  case rel => exact ⟨i + 1, true, by omega, by go_num, rfl, by unfold Hid; rw [HT.out, List.map_append]; simp only [true_iff]; exact List.mem_append.2 (.inr (by simp [HE.out])), HP11⟩
                  case measure => simp [intOf]; omega
                · have g : (R.lsn == at_) = false := by simp [he]
                  have HE := hide he
                  clear he
                  go_wp2_with fail
                  go_roundw
                  case rel =>
                    refine ⟨i + 1, false, by omega, by go_num, rfl, ?_, HP11⟩
                    unfold Hid
                    rw [HT.out, List.map_append]
                    refine ⟨fun h => (by cases h), fun h => ?_⟩
                    rcases List.mem_append.1 h with h | h
                    · exact absurd h HNO.out
                    · simp at h; exact absurd h.symm HE.out
                  case measure => simp [intOf]; omega
          · have e : rs2.take i = rs2 := List.take_of_length_le (by omega)
            rw [e] at HQ
            have hjn : ¬ (i : Int) < (rs2.length : Int) := by omega
            have HGX := hide (pq_getx HPR.out at_)
            have HO := hide HPR.out.only
            clear e HPR
            go_wp2_with fail
            refine HGX.out.mono ?_
            rintro e w9 (⟨r, L9, rfl, hin, ho⟩ | ⟨r, L9, rfl, hin, ho⟩)
            · obtain rfl : b = true := HQ.out.2 hin
              have HO9 := hide (o2 (o2 HO.out ho) (onlyA w9 (.cells (r.cells L9) 37)))
              clear ho hin HQ HGX
              go_wp2_with fail
              refine (wawake_any _).mono ?_
              rintro e w10 ⟨rfl, ho⟩
              have HOE : Hid (Only (fun _ => False) w w10) := o2 HO9.out ho
              clear ho
              go_wp2_with fail
              go_ret
              exact ⟨rfl, HOE.out⟩
            · obtain rfl : b = false := by
                cases b with
                | false => rfl
                | true => exact absurd (HQ.out.1 rfl) hin
              have HO9 := hide (o2 (o2 HO.out ho) (onlyA w9 (.cells (r.cells L9) 37)))
              clear ho hin HQ HGX
              go_wp2_with fail
              refine (wawake_any _).mono ?_
              rintro e w10 ⟨rfl, ho⟩
              have HOE : Hid (Only (fun _ => False) w w10) := o2 HO9.out ho
              clear ho
              go_wp2_with fail
              go_ret
              exact ⟨rfl, HOE.out⟩
end Go.Proofs.YtcbdpdkmkncffaaGreatDoor

namespace Go.Proofs.YtcbdpdkmkncffaaGreatDoor.walGets
open Go.ChangeShapes Go.WideShapes Go.ChangeAt Go.RowKit

theorem laid_met (os : Os) : laidMet Tryz.prog Rows.walGetsRow.laid ((laidWorld os).forCall (fun _ _ => 0) ⟨#[], #[.slice none 0 0, .int .i64 0, .int .i64 0], []⟩).memory :=
  laidMet_of_run' 8 (by kernel_rfl) (by kernel_rfl)
set_option maxRecDepth 100000 in
theorem lifted (os : Os) (started : os.Started) (H : Type) (enc : TypeId × Value → H) (F : Stop.Interp) :
    ReturnsInHanded {} Tryz.checked os 5 .any ((OpenSpec.ofChange Rows.walGetsSpec).preRow enc Tryz.prog Tryz.f5 Rows.walGetsRow.domain false Rows.walGetsRow.laid) (((OpenSpec.ofChange Rows.walGetsSpec).at F).post enc Tryz.prog Tryz.f5 false true false false) := by
  refine returnsInHanded_of_row (C := Tryz.checked) (s := OpenSpec.ofChange Rows.walGetsSpec) ownKnob_none started (by kernel_rfl) Tryz.func5
    (witness_row_at (enc := enc) (C := Tryz.checked) false (laidWorld os) #[.slice none 0 0, .int .i64 0, .int .i64 0] rfl (by kernel_rfl) (by kernel_rfl) (by kernel_rfl)
      (OpenSpec.preRow_of_cond (x := ([.nil, .lit (.int .i64 0), .lit (.int .i64 0)], [], [])) 8 (by kernel_rfl) (by kernel_rfl) (fun k hk => by cases hk) (by kernel_rfl) (laid_met os))) ?_
  intro W base args ds gs before hval0 hW _ _ hsz _ _ _
  have hval : ∀ (j : Nat) t v, Tryz.f5.params[j]? = some t → args[j]? = some v → Value.okWide Tryz.prog W .any base t v := hval0
  have hW' := hW
  obtain ⟨p, q, hA0, hV, rfl, hfz, hnd⟩ := hW
  have hA : DataW.TrodAll enc Tryz.prog W 0 (fun _ => true) true Tryz.f5.params.toList args.toList ds p := hA0
  rw [Tryz.params5] at hA hval hsz
  obtain ⟨v0, vs0, d0, ds0, p0, q0, hargs, rfl, rfl, h0, r0⟩ := trodAll_cons hA
  obtain ⟨v1, vs1, d1, ds1, p1, q1, rfl, rfl, rfl, h1, r1⟩ := trodAll_cons r0
  obtain ⟨v2, vs2, d2, ds2, p2, q2, rfl, rfl, rfl, h2, r2⟩ := trodAll_cons r1
  obtain ⟨rfl, rfl, rfl⟩ := trodAll_nil r2
  obtain rfl : args = #[v0, v1, v2] := by cases args; simp_all
  obtain ⟨rfl, rfl⟩ := trodVars_none hV
  obtain ⟨B, ao, cp, l, rfl, hat⟩ := open_recs (hval 0 49 v0 rfl rfl) h0 (sized_mem hsz (j := 0) rfl rfl)
  have lt0 : ∀ x ∈ p0, x.block < W.heap.size := fun x hx => hW'.lt x (by simp [hx])
  obtain ⟨a1, rfl, rfl, rfl, w1⟩ := open_int Tryz.underlying3 (hval 1 3 v1 rfl rfl) h1
  obtain ⟨a2, rfl, rfl, rfl, w2⟩ := open_int Tryz.underlying3 (hval 2 3 v2 rfl rfl) h2
  have b1 := bounds_i64 w1
  have b2 := bounds_i64 w2
  clear hA0 hval0
  simp only [List.append_nil] at hW'
  refine (wgets_law W B cp ao l hat a1 a2 ⟨b1.1, by omega⟩ ⟨b2.1, by omega⟩).mono fun e W' ⟨he, ho⟩ => ?_
  subst he
  have bel : Below W.heap.size W W' := ho.below (Nat.le_refl _) (fun _ _ h => h)
  exact ⟨_, rfl, _, _, _, [], _, [], hW', trodAll_mk1 (shut_bool Tryz.underlying4 _), (trodAll_cons_mk (Below.trod Tryz.laidOut (by kernel_rfl) (of_decide_eq_true (by kernel_rfl)) h0 bel lt0) (trodAll_cons_mk (shut_int Tryz.underlying3 w1) (trodAll_cons_mk (shut_int Tryz.underlying3 w2) trodAll_mk0))), rfl, bel.frame _, fun h => by cases h⟩

theorem said : Rows.WalGetsSaid :=
  OpenClaim.holds_of_cond 5 Tryz.f5 rfl rfl rfl rfl rfl rfl rfl ⟨rfl, rfl, rfl, rfl, rfl⟩ rfl rfl rfl rfl rfl (by kernel_rfl) Tryz.func5 (by kernel_rfl)
    (of_decide_eq_true (by kernel_rfl)) (by unfold Func.isWrapper; first | (rw [if_pos (by decide +kernel)]; kernel_rfl) | (rw [if_neg (by decide +kernel)]; exact ⟨rfl, rfl⟩))
    (fun os started H enc _ F => by rw [OpenClaim.pre_eq_preRow]; exact lifted os started H enc F)
theorem plain (f : FuncId) (fn : Func) (hf : Tryz.pinned.checked.prog.funcNamed "almonry/almonrylaw05.WalGets" = some f) (hfn : Tryz.pinned.checked.prog.funcs[f]? = some fn) :
    false = Tryz.pinned.checked.prog.looks [] ∧ ∀ (j : Nat) t, fn.params[j]? = some t → Tryz.pinned.checked.prog.wantsStandIn t = false := by
  obtain rfl : f = 5 := Option.some.inj ((show Tryz.prog.funcNamed "almonry/almonrylaw05.WalGets" = some 5 by kernel_rfl).symm.trans hf) |>.symm
  obtain rfl : fn = Tryz.f5 := (Option.some.inj (Tryz.func5.symm.trans hfn)).symm
  refine ⟨by kernel_rfl, fun j t ht => ?_⟩
  rw [Tryz.params5] at ht
  have ht' : t = 49 ∨ t = 3 := by simpa using Array.mem_of_getElem? ht
  rcases ht' with rfl | rfl
  · exact (show Tryz.prog.wantsStandIn 49 = false by kernel_rfl)
  · exact (show Tryz.prog.wantsStandIn 3 = false by kernel_rfl)
theorem card : Rows.WalGetsCardSaid :=
  Claim7.holds_tied_plain_at .later [] _ _ _ _ said (fun _ h => by cases h) (by kernel_rfl) (fun _ h => by cases h) walGets_row_tie rfl ⟨rfl, rfl⟩ (by kernel_rfl) rfl plain (by kernel_rfl)
end Go.Proofs.YtcbdpdkmkncffaaGreatDoor.walGets
namespace Go.Proofs.YtcbdpdkmkncffaaGreatDoor
theorem walGets_holds : Rows.WalGetsCardSaid := walGets.card
#print axioms walGets_holds
end Go.Proofs.YtcbdpdkmkncffaaGreatDoor
