/- TxnBegun: its walk. -/
import Derived.Test.YtmcghpeamnmbpaaOOpen
import Derived.Deep.RegionHeld3
namespace Go.Proofs.Ytmcghpeamnmbpaa
open Go.RowKit Go.Maps

theorem yieldsIf_load_cellP {ops : Array Oper} {S : World → Prop} {op : Oper} {a : Act} {v : Value} (hw : Region.wanted op (yielded ops a.tmps) = true) (ty : TypeId) (x : Operand) (ho : op.op = .load ty x)
    (p : Addr) (hx : a.eval x = .pointer (some p)) (hS : ∀ w, S w → w.cell? p = some v) (hl : ∀ w, w.cell? p = some v → (loadVar ty p).run Try.prog w = .ok v w) : YieldsIf Try.prog ops S op v a :=
  .inl ⟨hw, fun w hw' => by
    unfold execOp
    simp only [ho, hx, Instr.loadAt, Instr.sureAddr, Sem.run_bind, Sem.run_pure, Result.andThen_ok, hl w (hS w hw')]⟩
theorem nodup_le {α : Type} [DecidableEq α] : ∀ (B M : List α), B.Nodup → (∀ x ∈ B, x ∈ M) → B.length ≤ M.length
  | [], M, _, _ => Nat.zero_le _
  | b :: B, M, hn, hs => by
    have hb := hs b List.mem_cons_self
    have hn' := List.nodup_cons.1 hn
    have ih := nodup_le B (M.erase b) hn'.2 (fun x hx => (List.mem_erase_of_ne (fun e => hn'.1 (by rw [← e]; exact hx))).2 (hs x (List.mem_cons_of_mem _ hx)))
    rw [List.length_erase_of_mem hb] at ih
    have : 0 < M.length := List.length_pos_of_mem hb
    rw [List.length_cons]
    omega
theorem bg_le {f : Tt} {B : List (Int × Int)} {S : List (Int × List Int)} (h : BgIs f B) (k : SnIs f S) : B.length ≤ S.length := by
  obtain ⟨L, hL, rfl⟩ := k
  rw [List.length_map]
  have := nodup_le B (L.map fun a => ((ofT f a).xid, (ofT f a).lst)) (h.up.imp (fun {a b} hab e => by rw [e] at hab; omega)) (fun p hp => by
    obtain ⟨a, t, ha, _, rfl⟩ := (h.mem p).1 hp
    refine List.mem_map.2 ⟨a, (hL.mem a).2 ⟨t, ha⟩, ?_⟩
    unfold ofT
    rw [ha]
    rfl)
  rwa [List.length_map] at this
set_option maxRecDepth 100000 in
set_option maxHeartbeats 12800000 in
theorem begun_law (w : World) (B cp : Nat) (ao : Option Addr) (L : List Oq) (hI : Oqs w.heap.size w B ao L) : Calls Try.prog 7 #[.slice ao L.length cp] w fun e w' => e = .returned (.bool true) ∧ Only (fun _ => False) w w' := by
  have HAW := hide (fun W => awake_any W)
  have HN := hide (lw_new w w (Nat.le_refl _) (fun _ => False) (fun _ h => h.elim))
  have hlen := hI.len
  have HI := hide hI
  clear hI
  go_enter Try.func7, Try.ntmps7
  go_wp2_with fail
  refine HN.out.mono ?_
  rintro e w1 ⟨t, rfl, h1, ho1⟩
  have HT1 := hide h1
  have HO1 := hide ho1
  clear h1 ho1 HN
  go_wp2_with fail
  go_loopw [4] (fun y wr => ∃ (i : Nat) (f : Tt), i ≤ L.length ∧ y = .int .i64 (i : Int) ∧ Hid (Lw w (fun _ => False) wr t f i) ∧ Hid (Only (fun _ => False) w wr)) (fun y _ => L.length - (intOf y).toNat)
  case atStart => exact ⟨0, Tt.none, by omega, rfl, HT1, HO1⟩
  case round =>
    obtain ⟨i, f, hi, rfl, HT, HO⟩ := hrel
    by_cases hlt : i < L.length
    · have hIr := HI.out.more HO.out
      obtain ⟨o, rfl, hcell⟩ := hIr.at_ (by omega)
      have hok := hIr.ok L[i] (List.getElem_mem hlt)
      replace hcell := hcell i hlt
      obtain ⟨q, hq⟩ : ∃ q, L[i] = q := ⟨_, rfl⟩
      rw [hq] at hcell hok
      clear hq
      obtain ⟨c, ao, cq⟩ := q
      have k0 := hcell 0 _ rfl
      have k1 := hcell 1 _ rfl
      have k2 := hcell 2 _ rfl
      have k3 := hcell 3 _ rfl
      have k4 := hcell 4 _ rfl
      have k5 := hcell 5 _ rfl
      simp only [Nat.add_zero] at k0
      have HD := hide (does_any w wr (fun _ => False) t i f HT.out (fun _ h => h.elim) (by unfold maxLen; omega) c hok.who (fun k => k < w.heap.size) ao cq hok.nm)
      unfold clv at HD
      clear hcell hok hIr
      go_wp2_with fail
      refine HD.out.mono ?_
      rintro e w2 ⟨rfl, h2, ho2⟩
      have HT2 := hide h2
      have HO2 : Hid (Only (fun _ => False) w w2) := HO.out.trans ho2 (fun k hk h => by have := h.1; omega)
      obtain ⟨f2, hf2⟩ : ∃ g, doF f c = g := ⟨_, rfl⟩
      rw [hf2] at HT2
      clear h2 ho2 HD k0 k1 k2 k3 k4 k5 hf2 HT HO
      go_wp2_with fail
      exact ⟨⟨i + 1, f2, by omega, by go_num, HT2, HO2⟩, by simp [intOf]; omega⟩
    · have HR := hide (lw_bgn w wr (fun _ => False) t i f HT.out (by omega))
      clear HT1 HO1
      go_wp2_with fail
      refine HR.out.mono ?_
      rintro e w2 ⟨⟨aB, cB, M, rfl, hM, hB, hl⟩, ho2⟩
      have HM2 := hide hM
      have HBI := hide hB
      have HT2 := hide (HT.out.more ho2)
      have HO2 := hide (o2 HO.out ho2)
      have HR := hide (lw_run w w2 (fun _ => False) t i f HT2.out (by omega))
      clear hM hB ho2 HT HO
      go_wp2_with fail
      refine HR.out.mono ?_
      rintro e w3 ⟨⟨aL, cL, M3, rfl, hM, hB, hl3⟩, ho3⟩
      obtain rfl : M3 = M := HBI.out.one hB
      have HL3 := hide hM
      have HM3 := hide (GRow.more HM2.out ho3)
      have HT3 := hide (HT2.out.more ho3)
      have HO3 := hide (o2 HO2.out ho3)
      have HR := hide (lw_snaps w w3 (fun _ => False) t i f HT3.out (by omega))
      clear hM hB ho3 hl3 HM2 HT2 HO2
      go_wp2_with fail
      refine HR.out.mono ?_
      rintro e w4 ⟨⟨aS, cS, S, rfl, hS, hSI, hSl, _⟩, ho4⟩
      have hle : M3.length ≤ S.length := by
        have := bg_le HBI.out hSI
        rwa [List.length_map] at this
      have HL4 := hide (GRow.more HL3.out ho4)
      have HM4 := hide (GRow.more HM3.out ho4)
      have HT4 := hide (HT3.out.more ho4)
      have HO4 := hide (o2 HO3.out ho4)
      have hgt : ¬ S.length < M3.length := by omega
      have hgd : decide (S.length < M3.length) = false := decide_eq_false hgt
      clear hS hSI ho4 HL3 HM3 HT3 HO3 HR
      go_wp2_with fail
      have hML : M3.length ≤ 2199023255488 := by omega
      have hgM : 0 < M3.length → ∃ g, aB = some ⟨g, 0, none⟩ ∧ g < w4.heap.size ∧ ∀ k (hk : k < M3.length), w4.cell? ⟨g, k * 2, none⟩ = some (.int .i64 M3[k].1) ∧ w4.cell? ⟨g, k * 2 + 1, none⟩ = some (.int .i64 M3[k].2) := fun h0 => by
        rcases GRow.head HM4.out with ⟨_, e2, _⟩ | ⟨g, e2, _, hg, _, _, _, _⟩
        · have : M3.length = 0 := by rw [e2]; rfl
          omega
        · subst e2
          refine ⟨g, rfl, hg, fun k hk => ?_⟩
          obtain ⟨g', e3, _, _, _, hc⟩ := GRow.at_ HM4.out hk
          injection e3 with e3
          injection e3 with e3
          subst e3
          exact ⟨hc 0 (iv M3[k].1) (by decide) rfl, hc 1 (iv M3[k].2) (by decide) rfl⟩
      have hgL : 0 < M3.length → ∃ g, aL = some ⟨g, 0, none⟩ ∧ g < w4.heap.size ∧ ∀ k (hk : k < M3.length), w4.cell? ⟨g, k, none⟩ = some (.int .i64 M3[k].1) := fun h0 => by
        rcases GRow.head (E := EI) (L := M3.map (·.1)) (ao := aL) (cp := cL) (by rw [List.length_map]; exact HL4.out) with ⟨_, e2, _⟩ | ⟨g, e2, _, hg, _, _, _, hc⟩
        · have : (M3.map (·.1)).length = 0 := by rw [e2]; rfl
          rw [List.length_map] at this
          omega
        · refine ⟨g, e2, hg, fun k hk => hc k _ ?_⟩
          rw [fm_iv]
          simp [hk, iv]
      have HGM := hide hgM
      have HGL := hide hgL
      have HNN : Hid (∀ k (hk : k < M3.length), 0 ≤ M3[k].2) := fun k hk => by
        obtain ⟨a, tx, ha, _, e⟩ := (HBI.out.mem M3[k]).1 (List.getElem_mem hk)
        have := HT4.out.ok.fl a tx ha
        rw [e]
        show 0 ≤ tx.lst
        omega
      clear hgM hgL HL4 HM4 hgt hgd hle
      go_loopw [7] (fun y wr2 => ∃ (j : Nat), j ≤ M3.length ∧ y = .int .i64 (j : Int) ∧ Hid (Only (fun _ => False) w4 wr2)) (fun y _ => M3.length - (intOf y).toNat)
      case atStart => exact ⟨0, by omega, rfl, Only.refl _ _⟩
      case round =>
        obtain ⟨j, hj, rfl, HO5⟩ := hrel
        obtain ⟨wr2, hwr⟩ : ∃ x, x = wr := ⟨_, rfl⟩
        subst hwr
        by_cases hlt2 : j < M3.length
        · obtain ⟨gM, rfl, hgm, hcm⟩ := HGM.out (by omega)
          obtain ⟨gL, rfl, hgl, hcl⟩ := HGL.out (by omega)
          have hnn := HNN.out j hlt2
          have m0 := (HO5.out.cell (p := ⟨gM, j * 2, none⟩) hgm id).trans (hcm j hlt2).1
          have m1 := (HO5.out.cell (p := ⟨gM, j * 2 + 1, none⟩) hgm id).trans (hcm j hlt2).2
          have l0 := (HO5.out.cell (p := ⟨gL, j, none⟩) hgl id).trans (hcl j hlt2)
          obtain ⟨x, hx⟩ : ∃ z, M3[j].1 = z := ⟨_, rfl⟩
          obtain ⟨y, hy⟩ : ∃ z, M3[j].2 = z := ⟨_, rfl⟩
          rw [hx] at m0 l0
          rw [hy] at m1 hnn
          have hgm2 := Nat.lt_of_lt_of_le hgm HO5.out.size
          have hgl2 := Nat.lt_of_lt_of_le hgl HO5.out.size
          have HC0 : Hid (∀ W, Only (fun _ => False) wr2 W → W.cell? ⟨gM, j * 2, none⟩ = some (.int .i64 x)) := fun W ho => (ho.cell (p := ⟨gM, j * 2, none⟩) hgm2 id).trans m0
          have HC1 : Hid (∀ W, Only (fun _ => False) wr2 W → W.cell? ⟨gM, j * 2 + 1, none⟩ = some (.int .i64 y)) := fun W ho => (ho.cell (p := ⟨gM, j * 2 + 1, none⟩) hgm2 id).trans m1
          have HC2 : Hid (∀ W, Only (fun _ => False) wr2 W → W.cell? ⟨gL, j, none⟩ = some (.int .i64 x)) := fun W ho => (ho.cell (p := ⟨gL, j, none⟩) hgl2 id).trans l0
          have n2 : ¬ y < 0 := by omega
          have hj0 : (0 : Int) ≤ (j : Int) := by omega
          have hj1 : (j : Int) < (M3.length : Int) := by omega
          clear hcm hcl hnn m0 m1 l0 hx hy hgm hgl hgm2 hgl2
          go_upto_region 15 with fail
          refine wp_region_noPanic ?_
          refine wp_region_held_drew (S := fun W => Only (fun _ => False) wr2 W) (by kernel_rfl) (Only.drew _ wr2) (fun hHeld => ?_)
          refine wpAnyH_take (i := 0) (oi := { dst := some 51, op := Op.move (Operand.tmp 5), type := 51, pos := "law.go:192", after := #[], guard := none }) (v := .slice (some ⟨gM, 0, none⟩) M3.length cB) rfl (by kernel_rfl) (by kernel_rfl) (by kernel_rfl) (fun _ _ _ h => h) (Or.inl ⟨by rfl, fun w' hSw => by clear hSw; go_simp⟩) (by assumption) ?_
          simp only [Act.put, List.setIfInBounds_toArray, List.set_cons_zero, List.set_cons_succ]
          refine wpAnyH_take (i := 1) (oi := { dst := some 52, op := Op.move (Operand.tmp 7), type := 3, pos := "law.go:192", after := #[], guard := none }) (v := .int .i64 (j : Int)) rfl (by kernel_rfl) (by kernel_rfl) (by kernel_rfl) (fun _ _ _ h => h) (Or.inl ⟨by rfl, fun w' hSw => by clear hSw; go_simp⟩) (by assumption) ?_
          simp only [Act.put, List.setIfInBounds_toArray, List.set_cons_zero, List.set_cons_succ]
          refine wpAnyH_take (i := 5) (oi := { dst := some 56, op := Op.move (Operand.tmp 6), type := 27, pos := "law.go:192", after := #[], guard := none }) (v := .slice (some ⟨gL, 0, none⟩) M3.length cL) rfl (by kernel_rfl) (by kernel_rfl) (by kernel_rfl) (fun _ _ _ h => h) (Or.inl ⟨by rfl, fun w' hSw => by clear hSw; go_simp⟩) (by assumption) ?_
          simp only [Act.put, List.setIfInBounds_toArray, List.set_cons_zero, List.set_cons_succ]
          refine wpAnyH_take (i := 6) (oi := { dst := some 57, op := Op.move (Operand.tmp 7), type := 3, pos := "law.go:192", after := #[], guard := none }) (v := .int .i64 (j : Int)) rfl (by kernel_rfl) (by kernel_rfl) (by kernel_rfl) (fun _ _ _ h => h) (Or.inl ⟨by rfl, fun w' hSw => by clear hSw; go_simp⟩) (by assumption) ?_
          simp only [Act.put, List.setIfInBounds_toArray, List.set_cons_zero, List.set_cons_succ]
          refine wpAnyH_take (i := 2) (oi := { dst := some 53, op := Op.indexAddr 51 (Operand.tmp 51) (Operand.tmp 52), type := 0, pos := "law.go:192", after := #[{ on := 0, ground := Ground.data }, { on := 1, ground := Ground.data }], guard := none }) (v := .pointer (some ⟨gM, (j * 2), none⟩)) rfl (by kernel_rfl) (by kernel_rfl) (by kernel_rfl) (fun _ _ _ h => h) (Or.inl ⟨by rfl, fun w' hSw => by clear hSw; go_simp⟩) (by assumption) ?_
          simp only [Act.put, List.setIfInBounds_toArray, List.set_cons_zero, List.set_cons_succ]
          refine wpAnyH_take (i := 7) (oi := { dst := some 58, op := Op.indexAddr 27 (Operand.tmp 56) (Operand.tmp 57), type := 0, pos := "law.go:192", after := #[{ on := 5, ground := Ground.data }, { on := 6, ground := Ground.data }], guard := none }) (v := .pointer (some ⟨gL, j, none⟩)) rfl (by kernel_rfl) (by kernel_rfl) (by kernel_rfl) (fun _ _ _ h => h) (Or.inl ⟨by rfl, fun w' hSw => by clear hSw; go_simp⟩) (by assumption) ?_
          simp only [Act.put, List.setIfInBounds_toArray, List.set_cons_zero, List.set_cons_succ]
          refine wpAnyH_take (i := 3) (oi := { dst := some 54, op := Op.fieldAddr 59 (Operand.tmp 53) 0, type := 0, pos := "law.go:192", after := #[{ on := 2, ground := Ground.data }], guard := none }) (v := .pointer (some ⟨gM, (j * 2), none⟩)) rfl (by kernel_rfl) (by kernel_rfl) (by kernel_rfl) (fun _ _ _ h => h) (Or.inl ⟨by rfl, fun w' hSw => by clear hSw; go_simp⟩) (by assumption) ?_
          simp only [Act.put, List.setIfInBounds_toArray, List.set_cons_zero, List.set_cons_succ]
          refine wpAnyH_take (i := 8) (oi := { dst := some 59, op := Op.load 3 (Operand.tmp 58), type := 3, pos := "law.go:192", after := #[{ on := 7, ground := Ground.data }], guard := none }) (v := .int .i64 x) rfl (by kernel_rfl) (by kernel_rfl) (by kernel_rfl) (fun _ _ _ h => h) (yieldsIf_load_cellP (by rfl) 3 _ rfl _ rfl (fun W hW => HC2.out W hW) (fun W hc => ld_int hc)) (by assumption) ?_
          simp only [Act.put, List.setIfInBounds_toArray, List.set_cons_zero, List.set_cons_succ]
          refine wpAnyH_take (i := 4) (oi := { dst := some 55, op := Op.load 3 (Operand.tmp 54), type := 3, pos := "law.go:192", after := #[{ on := 3, ground := Ground.data }], guard := none }) (v := .int .i64 x) rfl (by kernel_rfl) (by kernel_rfl) (by kernel_rfl) (fun _ _ _ h => h) (yieldsIf_load_cellP (by rfl) 3 _ rfl _ rfl (fun W hW => HC0.out W hW) (fun W hc => ld_int hc)) (by assumption) ?_
          simp only [Act.put, List.setIfInBounds_toArray, List.set_cons_zero, List.set_cons_succ]
          refine wpAnyH_take (i := 9) (oi := { dst := some 60, op := Op.binOp BinOp.neq 3 (Operand.tmp 55) (Operand.tmp 59) 3, type := 4, pos := "law.go:192", after := #[{ on := 4, ground := Ground.data }, { on := 8, ground := Ground.data }], guard := none }) (v := .bool false) rfl (by kernel_rfl) (by kernel_rfl) (by kernel_rfl) (fun _ _ _ h => h) (Or.inl ⟨by rfl, fun w' hSw => by clear hSw; go_simp⟩) (by assumption) ?_
          simp only [Act.put, List.setIfInBounds_toArray, List.set_cons_zero, List.set_cons_succ]
          refine wpAnyH_take (i := 10) (oi := { dst := some 61, op := Op.move (Operand.tmp 60), type := 4, pos := "law.go:192", after := #[{ on := 9, ground := Ground.data }], guard := none }) (v := .bool false) rfl (by kernel_rfl) (by kernel_rfl) (by kernel_rfl) (fun _ _ _ h => h) (Or.inl ⟨by rfl, fun w' hSw => by clear hSw; go_simp⟩) (by assumption) ?_
          simp only [Act.put, List.setIfInBounds_toArray, List.set_cons_zero, List.set_cons_succ]
          refine wpAnyH_take (i := 11) (oi := { dst := some 62, op := Op.move (Operand.tmp 5), type := 51, pos := "law.go:192", after := #[{ on := 10, ground := Ground.guard }], guard := some (10, false) }) (v := .slice (some ⟨gM, 0, none⟩) M3.length cB) rfl (by kernel_rfl) (by kernel_rfl) (by kernel_rfl) (fun _ _ _ h => h) (Or.inl ⟨by rfl, fun w' hSw => by clear hSw; go_simp⟩) (by assumption) ?_
          simp only [Act.put, List.setIfInBounds_toArray, List.set_cons_zero, List.set_cons_succ]
          refine wpAnyH_take (i := 12) (oi := { dst := some 63, op := Op.move (Operand.tmp 7), type := 3, pos := "law.go:192", after := #[{ on := 10, ground := Ground.guard }], guard := some (10, false) }) (v := .int .i64 (j : Int)) rfl (by kernel_rfl) (by kernel_rfl) (by kernel_rfl) (fun _ _ _ h => h) (Or.inl ⟨by rfl, fun w' hSw => by clear hSw; go_simp⟩) (by assumption) ?_
          simp only [Act.put, List.setIfInBounds_toArray, List.set_cons_zero, List.set_cons_succ]
          refine wpAnyH_take (i := 13) (oi := { dst := some 64, op := Op.indexAddr 51 (Operand.tmp 62) (Operand.tmp 63), type := 0, pos := "law.go:192", after := #[{ on := 11, ground := Ground.data }, { on := 12, ground := Ground.data }, { on := 10, ground := Ground.guard }], guard := some (10, false) }) (v := .pointer (some ⟨gM, (j * 2), none⟩)) rfl (by kernel_rfl) (by kernel_rfl) (by kernel_rfl) (fun _ _ _ h => h) (Or.inl ⟨by rfl, fun w' hSw => by clear hSw; go_simp⟩) (by assumption) ?_
          simp only [Act.put, List.setIfInBounds_toArray, List.set_cons_zero, List.set_cons_succ]
          refine wpAnyH_take (i := 14) (oi := { dst := some 65, op := Op.fieldAddr 59 (Operand.tmp 64) 1, type := 0, pos := "law.go:192", after := #[{ on := 13, ground := Ground.data }, { on := 10, ground := Ground.guard }], guard := some (10, false) }) (v := .pointer (some ⟨gM, (j * 2) + 1, none⟩)) rfl (by kernel_rfl) (by kernel_rfl) (by kernel_rfl) (fun _ _ _ h => h) (Or.inl ⟨by rfl, fun w' hSw => by clear hSw; go_simp⟩) (by assumption) ?_
          simp only [Act.put, List.setIfInBounds_toArray, List.set_cons_zero, List.set_cons_succ]
          refine wpAnyH_take (i := 15) (oi := { dst := some 66, op := Op.load 3 (Operand.tmp 65), type := 3, pos := "law.go:192", after := #[{ on := 14, ground := Ground.data }, { on := 10, ground := Ground.guard }], guard := some (10, false) }) (v := .int .i64 y) rfl (by kernel_rfl) (by kernel_rfl) (by kernel_rfl) (fun _ _ _ h => h) (yieldsIf_load_cellP (by rfl) 3 _ rfl _ rfl (fun W hW => HC1.out W hW) (fun W hc => ld_int hc)) (by assumption) ?_
          simp only [Act.put, List.setIfInBounds_toArray, List.set_cons_zero, List.set_cons_succ]
          refine wpAnyH_take (i := 16) (oi := { dst := some 67, op := Op.binOp BinOp.lss 3 (Operand.tmp 66) (Operand.const (Value.int IntKind.i64 0)) 3, type := 4, pos := "law.go:192", after := #[{ on := 15, ground := Ground.data }, { on := 10, ground := Ground.guard }], guard := some (10, false) }) (v := .bool false) rfl (by kernel_rfl) (by kernel_rfl) (by kernel_rfl) (fun _ _ _ h => h) (Or.inl ⟨by rfl, fun w' hSw => by clear hSw; go_simp⟩) (by assumption) ?_
          simp only [Act.put, List.setIfInBounds_toArray, List.set_cons_zero, List.set_cons_succ]
          refine wpAnyH_take (i := 17) (oi := { dst := some 68, op := Op.pick (Operand.tmp 61) (Operand.const (Value.bool true)) (Operand.tmp 67), type := 4, pos := "law.go:192", after := #[{ on := 10, ground := Ground.data }, { on := 16, ground := Ground.data }], guard := none }) (v := .bool false) rfl (by kernel_rfl) (by kernel_rfl) (by kernel_rfl) (fun _ _ _ h => h) (Or.inl ⟨by rfl, fun w' hSw => by clear hSw; go_simp⟩) (by assumption) ?_
          simp only [Act.put, List.setIfInBounds_toArray, List.set_cons_zero, List.set_cons_succ]
          refine wpAnyH_done (by kernel_rfl) ?_ _
          refine NoPanic.normal ?_
          go_wp2_with fail
          exact ⟨⟨j + 1, by omega, by go_num, o2 HO5.out (Only.drew _ wr2)⟩, by simp [intOf]; omega⟩
        · clear HNN HGL
          go_wp2_with fail
          go_loopw [8] (fun y wr3 => ∃ (k : Nat), k ≤ L.length ∧ y = .int .i64 (k : Int) ∧ Hid (Only (fun _ => False) wr2 wr3)) (fun y _ => L.length - (intOf y).toNat)
          case atStart => exact ⟨0, by omega, rfl, Only.refl _ _⟩
          case round =>
            obtain ⟨k, hk, rfl, HO6⟩ := hrel
            obtain ⟨wr3, hwr⟩ : ∃ x, x = wr := ⟨_, rfl⟩
            subst hwr
            have HOW : Hid (Only (fun _ => False) w wr3) := o2 (o2 HO4.out HO5.out) HO6.out
            by_cases hlt3 : k < L.length
            · have hIr := HI.out.more HOW.out
              obtain ⟨o, rfl, hcell⟩ := hIr.at_ (by omega)
              have hok := hIr.ok L[k] (List.getElem_mem hlt3)
              replace hcell := hcell k hlt3
              obtain ⟨q, hq⟩ : ∃ q, L[k] = q := ⟨_, rfl⟩
              rw [hq] at hcell hok
              clear hq
              obtain ⟨c, ao, cq⟩ := q
              have k1 := hcell 1 _ rfl
              have HF := hide (lw_of w wr3 (fun _ => False) t i f (HT4.out.more (o2 HO5.out HO6.out)) c.who hok.who)
              clear hcell hok hIr
              go_wp2_with fail
              refine HF.out.mono ?_
              rintro e w7 ⟨⟨a2, c2, rfl, _, _⟩, ho7⟩
              unfold txv
              have HO7 := hide ho7
              obtain ⟨x, hx⟩ : ∃ x, ofT f c.who = x := ⟨_, rfl⟩
              obtain ⟨is, his⟩ : ∃ b, (f c.who).isSome = b := ⟨_, rfl⟩
              have HMEM : Hid (is = true → x.xid ≠ 0 → (x.xid, x.lst) ∈ M3) := fun h1 h2 => by
                rw [← his] at h1
                obtain ⟨y, hy⟩ := Option.isSome_iff_exists.1 h1
                unfold ofT at hx
                rw [hy] at hx
                exact (HBI.out.mem _).2 ⟨c.who, y, hy, by have e : y = x := hx; rw [e]; exact ⟨h2, rfl⟩⟩
              rw [hx, his]
              obtain ⟨nx, act, xi, fi, la, un⟩ := x
              simp only at HMEM ⊢
              clear ho7 HF k1 hx his
              go_upto_region 21 with fail
              have HB : Hid (Cb (w7.alloc (.cells #[.int .i64 nx, .slice a2 act.length c2, .int .i64 xi, .int .i64 fi, .int .i64 la, .int .i64 un] 37)) w7.heap.size [.int .i64 nx, .slice a2 act.length c2, .int .i64 xi, .int .i64 fi, .int .i64 la, .int .i64 un]) := Cb.new w7 _ _
              have HO8 := hide (o2 HO7.out (onlyA w7 #[.int .i64 nx, .slice a2 act.length c2, .int .i64 xi, .int .i64 fi, .int .i64 la, .int .i64 un] 37))
              obtain ⟨W8, hW8⟩ : ∃ x, w7.alloc (.cells #[.int .i64 nx, .slice a2 act.length c2, .int .i64 xi, .int .i64 fi, .int .i64 la, .int .i64 un] 37) = x := ⟨_, rfl⟩
              rw [hW8] at HB HO8 ⊢
              obtain ⟨b9, hb9⟩ : ∃ b, w7.heap.size = b := ⟨_, rfl⟩
              rw [hb9] at HB ⊢
              clear hW8 hb9 HO7
              go_wp2_with fail
              go_loopw [11, 12] (fun u y wr4 => ∃ (d : Bool) (j : Nat), u = .bool d ∧ j ≤ M3.length ∧ y = .int .i64 (j : Int) ∧ Hid (∀ i (hi : i < M3.length), i < j → M3[i] = (xi, la) → d = true) ∧ Hid (Only (fun _ => False) W8 wr4)) (fun _ y _ => M3.length - (intOf y).toNat)
              case atStart => exact ⟨false, 0, rfl, by omega, rfl, (fun _ _ h => by omega), Only.refl _ _⟩
              case round =>
                obtain ⟨d, j, rfl, hj, rfl, HQ, HO9⟩ := hrel
                obtain ⟨wr4, hwr⟩ : ∃ x, x = wr := ⟨_, rfl⟩
                subst hwr
                have c2 := (HB.out.more HO9.out).c 2 _ rfl
                have c4 := (HB.out.more HO9.out).c 4 _ rfl
                by_cases hlt4 : j < M3.length
                · obtain ⟨gM, rfl, hgm, hcm⟩ := HGM.out (by omega)
                  have hO49 : Only (fun _ => False) w4 wr4 := o2 (o2 (o2 HO5.out HO6.out) HO8.out) HO9.out
                  have m0 := (hO49.cell (p := ⟨gM, j * 2, none⟩) hgm id).trans (hcm j hlt4).1
                  have m1 := (hO49.cell (p := ⟨gM, j * 2 + 1, none⟩) hgm id).trans (hcm j hlt4).2
                  obtain ⟨px, hpx⟩ : ∃ z, M3[j].1 = z := ⟨_, rfl⟩
                  obtain ⟨py, hpy⟩ : ∃ z, M3[j].2 = z := ⟨_, rfl⟩
                  rw [hpx] at m0
                  rw [hpy] at m1
                  have HPX := hide hpx
                  have HPY := hide hpy
                  have hgm2 := Nat.lt_of_lt_of_le hgm hO49.size
                  have hbl := (HB.out.more HO9.out).lt
                  have HC0 : Hid (∀ W, Only (fun _ => False) wr4 W → W.cell? ⟨gM, j * 2, none⟩ = some (.int .i64 px)) := fun W ho => (ho.cell (p := ⟨gM, j * 2, none⟩) hgm2 id).trans m0
                  have HC1 : Hid (∀ W, Only (fun _ => False) wr4 W → W.cell? ⟨gM, j * 2 + 1, none⟩ = some (.int .i64 py)) := fun W ho => (ho.cell (p := ⟨gM, j * 2 + 1, none⟩) hgm2 id).trans m1
                  have HC2 : Hid (∀ W, Only (fun _ => False) wr4 W → W.cell? ⟨b9, 2, none⟩ = some (.int .i64 xi)) := fun W ho => (ho.cell (p := ⟨b9, 2, none⟩) hbl id).trans c2
                  have HC4 : Hid (∀ W, Only (fun _ => False) wr4 W → W.cell? ⟨b9, 4, none⟩ = some (.int .i64 la)) := fun W ho => (ho.cell (p := ⟨b9, 4, none⟩) hbl id).trans c4
                  have hj0 : (0 : Int) ≤ (j : Int) := by omega
                  have hj1 : (j : Int) < (M3.length : Int) := by omega
                  clear hcm m0 m1 c2 c4 hpx hpy hgm hgm2 hbl hO49
                  cases d with
                  | true =>
                    go_upto_region 25 with fail
                    refine wp_region_noPanic ?_
                    refine wp_region_held_drew (S := fun W => Only (fun _ => False) wr4 W) (by kernel_rfl) (Only.drew _ wr4) (fun hHeld => ?_)
                    refine wpAnyH_take (i := 0) (oi := { dst := some 91, op := Op.move (Operand.tmp 11), type := 4, pos := "law.go:200", after := #[], guard := none }) (v := .bool true) rfl (by kernel_rfl) (by kernel_rfl) (by kernel_rfl) (fun _ _ _ h => h) (Or.inl ⟨by rfl, fun w' hSw => by clear hSw; go_simp⟩) (by assumption) ?_
                    simp only [Act.put, List.setIfInBounds_toArray, List.set_cons_zero, List.set_cons_succ]
                    refine wpAnyH_take (i := 1) (oi := { dst := some 92, op := Op.move (Operand.tmp 91), type := 4, pos := "law.go:200", after := #[{ on := 0, ground := Ground.data }], guard := none }) (v := .bool true) rfl (by kernel_rfl) (by kernel_rfl) (by kernel_rfl) (fun _ _ _ h => h) (Or.inl ⟨by rfl, fun w' hSw => by clear hSw; go_simp⟩) (by assumption) ?_
                    simp only [Act.put, List.setIfInBounds_toArray, List.set_cons_zero, List.set_cons_succ]
                    refine wpAnyH_take (i := 2) (oi := { dst := some 93, op := Op.move (Operand.tmp 5), type := 51, pos := "law.go:200", after := #[{ on := 1, ground := Ground.guard }], guard := some (1, false) }) (v := undef) rfl (by kernel_rfl) (by kernel_rfl) (by kernel_rfl) (fun _ _ _ h => h) (Or.inr ⟨by rfl, rfl⟩) (by assumption) ?_
                    simp only [Act.put, List.setIfInBounds_toArray, List.set_cons_zero, List.set_cons_succ]
                    refine wpAnyH_take (i := 3) (oi := { dst := some 94, op := Op.move (Operand.tmp 12), type := 3, pos := "law.go:200", after := #[{ on := 1, ground := Ground.guard }], guard := some (1, false) }) (v := undef) rfl (by kernel_rfl) (by kernel_rfl) (by kernel_rfl) (fun _ _ _ h => h) (Or.inr ⟨by rfl, rfl⟩) (by assumption) ?_
                    simp only [Act.put, List.setIfInBounds_toArray, List.set_cons_zero, List.set_cons_succ]
                    refine wpAnyH_take (i := 7) (oi := { dst := some 98, op := Op.fieldAddr 37 (Operand.tmp 9) 1, type := 0, pos := "law.go:200", after := #[{ on := 1, ground := Ground.guard }], guard := some (1, false) }) (v := undef) rfl (by kernel_rfl) (by kernel_rfl) (by kernel_rfl) (fun _ _ _ h => h) (Or.inr ⟨by rfl, rfl⟩) (by assumption) ?_
                    simp only [Act.put, List.setIfInBounds_toArray, List.set_cons_zero, List.set_cons_succ]
                    refine wpAnyH_take (i := 4) (oi := { dst := some 95, op := Op.indexAddr 51 (Operand.tmp 93) (Operand.tmp 94), type := 0, pos := "law.go:200", after := #[{ on := 2, ground := Ground.data }, { on := 3, ground := Ground.data }, { on := 1, ground := Ground.guard }], guard := some (1, false) }) (v := undef) rfl (by kernel_rfl) (by kernel_rfl) (by kernel_rfl) (fun _ _ _ h => h) (Or.inr ⟨by rfl, rfl⟩) (by assumption) ?_
                    simp only [Act.put, List.setIfInBounds_toArray, List.set_cons_zero, List.set_cons_succ]
                    refine wpAnyH_take (i := 8) (oi := { dst := some 99, op := Op.load 3 (Operand.tmp 98), type := 3, pos := "law.go:200", after := #[{ on := 7, ground := Ground.data }, { on := 1, ground := Ground.guard }], guard := some (1, false) }) (v := undef) rfl (by kernel_rfl) (by kernel_rfl) (by kernel_rfl) (fun _ _ _ h => h) (Or.inr ⟨by rfl, rfl⟩) (by assumption) ?_
                    simp only [Act.put, List.setIfInBounds_toArray, List.set_cons_zero, List.set_cons_succ]
                    refine wpAnyH_take (i := 5) (oi := { dst := some 96, op := Op.fieldAddr 59 (Operand.tmp 95) 0, type := 0, pos := "law.go:200", after := #[{ on := 4, ground := Ground.data }, { on := 1, ground := Ground.guard }], guard := some (1, false) }) (v := undef) rfl (by kernel_rfl) (by kernel_rfl) (by kernel_rfl) (fun _ _ _ h => h) (Or.inr ⟨by rfl, rfl⟩) (by assumption) ?_
                    simp only [Act.put, List.setIfInBounds_toArray, List.set_cons_zero, List.set_cons_succ]
                    refine wpAnyH_take (i := 6) (oi := { dst := some 97, op := Op.load 3 (Operand.tmp 96), type := 3, pos := "law.go:200", after := #[{ on := 5, ground := Ground.data }, { on := 1, ground := Ground.guard }], guard := some (1, false) }) (v := undef) rfl (by kernel_rfl) (by kernel_rfl) (by kernel_rfl) (fun _ _ _ h => h) (Or.inr ⟨by rfl, rfl⟩) (by assumption) ?_
                    simp only [Act.put, List.setIfInBounds_toArray, List.set_cons_zero, List.set_cons_succ]
                    refine wpAnyH_take (i := 9) (oi := { dst := some 100, op := Op.binOp BinOp.eql 3 (Operand.tmp 97) (Operand.tmp 99) 3, type := 4, pos := "law.go:200", after := #[{ on := 6, ground := Ground.data }, { on := 8, ground := Ground.data }, { on := 1, ground := Ground.guard }], guard := some (1, false) }) (v := undef) rfl (by kernel_rfl) (by kernel_rfl) (by kernel_rfl) (fun _ _ _ h => h) (Or.inr ⟨by rfl, rfl⟩) (by assumption) ?_
                    simp only [Act.put, List.setIfInBounds_toArray, List.set_cons_zero, List.set_cons_succ]
                    refine wpAnyH_take (i := 10) (oi := { dst := some 101, op := Op.move (Operand.tmp 100), type := 4, pos := "law.go:200", after := #[{ on := 9, ground := Ground.data }, { on := 1, ground := Ground.chain }, { on := 1, ground := Ground.guard }], guard := some (1, false) }) (v := undef) rfl (by kernel_rfl) (by kernel_rfl) (by kernel_rfl) (fun _ _ _ h => h) (Or.inr ⟨by rfl, rfl⟩) (by assumption) ?_
                    simp only [Act.put, List.setIfInBounds_toArray, List.set_cons_zero, List.set_cons_succ]
                    refine wpAnyH_take (i := 11) (oi := { dst := some 102, op := Op.move (Operand.tmp 5), type := 51, pos := "law.go:200", after := #[{ on := 10, ground := Ground.guard }], guard := some (10, true) }) (v := undef) rfl (by kernel_rfl) (by kernel_rfl) (by kernel_rfl) (fun _ _ _ h => h) (Or.inr ⟨by rfl, rfl⟩) (by assumption) ?_
                    simp only [Act.put, List.setIfInBounds_toArray, List.set_cons_zero, List.set_cons_succ]
                    refine wpAnyH_take (i := 12) (oi := { dst := some 103, op := Op.move (Operand.tmp 12), type := 3, pos := "law.go:200", after := #[{ on := 10, ground := Ground.guard }], guard := some (10, true) }) (v := undef) rfl (by kernel_rfl) (by kernel_rfl) (by kernel_rfl) (fun _ _ _ h => h) (Or.inr ⟨by rfl, rfl⟩) (by assumption) ?_
                    simp only [Act.put, List.setIfInBounds_toArray, List.set_cons_zero, List.set_cons_succ]
                    refine wpAnyH_take (i := 16) (oi := { dst := some 107, op := Op.fieldAddr 37 (Operand.tmp 9) 3, type := 0, pos := "law.go:200", after := #[{ on := 10, ground := Ground.guard }], guard := some (10, true) }) (v := undef) rfl (by kernel_rfl) (by kernel_rfl) (by kernel_rfl) (fun _ _ _ h => h) (Or.inr ⟨by rfl, rfl⟩) (by assumption) ?_
                    simp only [Act.put, List.setIfInBounds_toArray, List.set_cons_zero, List.set_cons_succ]
                    refine wpAnyH_take (i := 13) (oi := { dst := some 104, op := Op.indexAddr 51 (Operand.tmp 102) (Operand.tmp 103), type := 0, pos := "law.go:200", after := #[{ on := 11, ground := Ground.data }, { on := 12, ground := Ground.data }, { on := 10, ground := Ground.guard }], guard := some (10, true) }) (v := undef) rfl (by kernel_rfl) (by kernel_rfl) (by kernel_rfl) (fun _ _ _ h => h) (Or.inr ⟨by rfl, rfl⟩) (by assumption) ?_
                    simp only [Act.put, List.setIfInBounds_toArray, List.set_cons_zero, List.set_cons_succ]
                    refine wpAnyH_take (i := 17) (oi := { dst := some 108, op := Op.load 3 (Operand.tmp 107), type := 3, pos := "law.go:200", after := #[{ on := 16, ground := Ground.data }, { on := 10, ground := Ground.guard }], guard := some (10, true) }) (v := undef) rfl (by kernel_rfl) (by kernel_rfl) (by kernel_rfl) (fun _ _ _ h => h) (Or.inr ⟨by rfl, rfl⟩) (by assumption) ?_
                    simp only [Act.put, List.setIfInBounds_toArray, List.set_cons_zero, List.set_cons_succ]
                    refine wpAnyH_take (i := 14) (oi := { dst := some 105, op := Op.fieldAddr 59 (Operand.tmp 104) 1, type := 0, pos := "law.go:200", after := #[{ on := 13, ground := Ground.data }, { on := 10, ground := Ground.guard }], guard := some (10, true) }) (v := undef) rfl (by kernel_rfl) (by kernel_rfl) (by kernel_rfl) (fun _ _ _ h => h) (Or.inr ⟨by rfl, rfl⟩) (by assumption) ?_
                    simp only [Act.put, List.setIfInBounds_toArray, List.set_cons_zero, List.set_cons_succ]
                    refine wpAnyH_take (i := 15) (oi := { dst := some 106, op := Op.load 3 (Operand.tmp 105), type := 3, pos := "law.go:200", after := #[{ on := 14, ground := Ground.data }, { on := 10, ground := Ground.guard }], guard := some (10, true) }) (v := undef) rfl (by kernel_rfl) (by kernel_rfl) (by kernel_rfl) (fun _ _ _ h => h) (Or.inr ⟨by rfl, rfl⟩) (by assumption) ?_
                    simp only [Act.put, List.setIfInBounds_toArray, List.set_cons_zero, List.set_cons_succ]
                    refine wpAnyH_take (i := 18) (oi := { dst := some 109, op := Op.binOp BinOp.eql 3 (Operand.tmp 106) (Operand.tmp 108) 3, type := 4, pos := "law.go:200", after := #[{ on := 15, ground := Ground.data }, { on := 17, ground := Ground.data }, { on := 10, ground := Ground.guard }], guard := some (10, true) }) (v := undef) rfl (by kernel_rfl) (by kernel_rfl) (by kernel_rfl) (fun _ _ _ h => h) (Or.inr ⟨by rfl, rfl⟩) (by assumption) ?_
                    simp only [Act.put, List.setIfInBounds_toArray, List.set_cons_zero, List.set_cons_succ]
                    refine wpAnyH_take (i := 19) (oi := { dst := some 110, op := Op.pick (Operand.tmp 101) (Operand.tmp 109) (Operand.const (Value.bool false)), type := 4, pos := "law.go:200", after := #[{ on := 10, ground := Ground.data }, { on := 18, ground := Ground.data }, { on := 1, ground := Ground.guard }], guard := some (1, false) }) (v := undef) rfl (by kernel_rfl) (by kernel_rfl) (by kernel_rfl) (fun _ _ _ h => h) (Or.inr ⟨by rfl, rfl⟩) (by assumption) ?_
                    simp only [Act.put, List.setIfInBounds_toArray, List.set_cons_zero, List.set_cons_succ]
                    refine wpAnyH_take (i := 20) (oi := { dst := some 111, op := Op.pick (Operand.tmp 92) (Operand.const (Value.bool true)) (Operand.tmp 110), type := 4, pos := "law.go:200", after := #[{ on := 1, ground := Ground.data }, { on := 19, ground := Ground.data }], guard := none }) (v := .bool true) rfl (by kernel_rfl) (by kernel_rfl) (by kernel_rfl) (fun _ _ _ h => h) (Or.inl ⟨by rfl, fun w' hSw => by clear hSw; go_simp⟩) (by assumption) ?_
                    simp only [Act.put, List.setIfInBounds_toArray, List.set_cons_zero, List.set_cons_succ]
                    refine wpAnyH_take (i := 21) (oi := { dst := some 11, op := Op.assign (Operand.tmp 111), type := 4, pos := "law.go:200", after := #[{ on := 20, ground := Ground.data }, { on := 10, ground := Ground.chain }, { on := 0, ground := Ground.phase }, { on := 1, ground := Ground.phase }, { on := 2, ground := Ground.phase }, { on := 3, ground := Ground.phase }, { on := 4, ground := Ground.phase }, { on := 5, ground := Ground.phase }, { on := 6, ground := Ground.phase }, { on := 7, ground := Ground.phase }, { on := 8, ground := Ground.phase }, { on := 9, ground := Ground.phase }, { on := 10, ground := Ground.phase }, { on := 11, ground := Ground.phase }, { on := 12, ground := Ground.phase }, { on := 13, ground := Ground.phase }, { on := 14, ground := Ground.phase }, { on := 15, ground := Ground.phase }, { on := 16, ground := Ground.phase }, { on := 17, ground := Ground.phase }, { on := 18, ground := Ground.phase }, { on := 19, ground := Ground.phase }, { on := 20, ground := Ground.phase }], guard := none }) (v := .bool true) rfl (by kernel_rfl) (by kernel_rfl) (by kernel_rfl) (fun _ _ _ h => h) (Or.inl ⟨by rfl, fun w' hSw => by clear hSw; go_simp⟩) (by assumption) ?_
                    simp only [Act.put, List.setIfInBounds_toArray, List.set_cons_zero, List.set_cons_succ]
                    refine wpAnyH_done (by kernel_rfl) ?_ _
                    refine NoPanic.normal ?_
                    go_wp2_with fail
                    refine ⟨⟨true, j + 1, rfl, by omega, by go_num, ?_, o2 HO9.out (Only.drew _ wr4)⟩, by simp [intOf]; omega⟩
                    exact fun _ _ _ _ => rfl
                  | false =>
                    have HQF : Hid (∀ i (hi : i < M3.length), i < j → M3[i] ≠ (xi, la)) := fun i hi h1 e => by have := HQ.out i hi h1 e; cases this
                    by_cases h1 : px = xi
                    · have e1 : (px == xi) = true := by simp [h1]
                      by_cases h2 : py = la
                      · have e2 : (py == la) = true := by simp [h2]
                        clear h1 h2
                        go_upto_region 25 with fail
                        refine wp_region_noPanic ?_
                        refine wp_region_held_drew (S := fun W => Only (fun _ => False) wr4 W) (by kernel_rfl) (Only.drew _ wr4) (fun hHeld => ?_)
                        refine wpAnyH_take (i := 0) (oi := { dst := some 91, op := Op.move (Operand.tmp 11), type := 4, pos := "law.go:200", after := #[], guard := none }) (v := .bool false) rfl (by kernel_rfl) (by kernel_rfl) (by kernel_rfl) (fun _ _ _ h => h) (Or.inl ⟨by rfl, fun w' hSw => by clear hSw; go_simp⟩) (by assumption) ?_
                        simp only [Act.put, List.setIfInBounds_toArray, List.set_cons_zero, List.set_cons_succ]
                        refine wpAnyH_take (i := 1) (oi := { dst := some 92, op := Op.move (Operand.tmp 91), type := 4, pos := "law.go:200", after := #[{ on := 0, ground := Ground.data }], guard := none }) (v := .bool false) rfl (by kernel_rfl) (by kernel_rfl) (by kernel_rfl) (fun _ _ _ h => h) (Or.inl ⟨by rfl, fun w' hSw => by clear hSw; go_simp⟩) (by assumption) ?_
                        simp only [Act.put, List.setIfInBounds_toArray, List.set_cons_zero, List.set_cons_succ]
                        refine wpAnyH_take (i := 2) (oi := { dst := some 93, op := Op.move (Operand.tmp 5), type := 51, pos := "law.go:200", after := #[{ on := 1, ground := Ground.guard }], guard := some (1, false) }) (v := .slice (some ⟨gM, 0, none⟩) M3.length cB) rfl (by kernel_rfl) (by kernel_rfl) (by kernel_rfl) (fun _ _ _ h => h) (Or.inl ⟨by rfl, fun w' hSw => by clear hSw; go_simp⟩) (by assumption) ?_
                        simp only [Act.put, List.setIfInBounds_toArray, List.set_cons_zero, List.set_cons_succ]
                        refine wpAnyH_take (i := 3) (oi := { dst := some 94, op := Op.move (Operand.tmp 12), type := 3, pos := "law.go:200", after := #[{ on := 1, ground := Ground.guard }], guard := some (1, false) }) (v := .int .i64 (j : Int)) rfl (by kernel_rfl) (by kernel_rfl) (by kernel_rfl) (fun _ _ _ h => h) (Or.inl ⟨by rfl, fun w' hSw => by clear hSw; go_simp⟩) (by assumption) ?_
                        simp only [Act.put, List.setIfInBounds_toArray, List.set_cons_zero, List.set_cons_succ]
                        refine wpAnyH_take (i := 7) (oi := { dst := some 98, op := Op.fieldAddr 37 (Operand.tmp 9) 1, type := 0, pos := "law.go:200", after := #[{ on := 1, ground := Ground.guard }], guard := some (1, false) }) (v := .pointer (some ⟨b9, 2, none⟩)) rfl (by kernel_rfl) (by kernel_rfl) (by kernel_rfl) (fun _ _ _ h => h) (Or.inl ⟨by rfl, fun w' hSw => by clear hSw; go_simp⟩) (by assumption) ?_
                        simp only [Act.put, List.setIfInBounds_toArray, List.set_cons_zero, List.set_cons_succ]
                        refine wpAnyH_take (i := 4) (oi := { dst := some 95, op := Op.indexAddr 51 (Operand.tmp 93) (Operand.tmp 94), type := 0, pos := "law.go:200", after := #[{ on := 2, ground := Ground.data }, { on := 3, ground := Ground.data }, { on := 1, ground := Ground.guard }], guard := some (1, false) }) (v := .pointer (some ⟨gM, (j * 2), none⟩)) rfl (by kernel_rfl) (by kernel_rfl) (by kernel_rfl) (fun _ _ _ h => h) (Or.inl ⟨by rfl, fun w' hSw => by clear hSw; go_simp⟩) (by assumption) ?_
                        simp only [Act.put, List.setIfInBounds_toArray, List.set_cons_zero, List.set_cons_succ]
                        refine wpAnyH_take (i := 8) (oi := { dst := some 99, op := Op.load 3 (Operand.tmp 98), type := 3, pos := "law.go:200", after := #[{ on := 7, ground := Ground.data }, { on := 1, ground := Ground.guard }], guard := some (1, false) }) (v := .int .i64 xi) rfl (by kernel_rfl) (by kernel_rfl) (by kernel_rfl) (fun _ _ _ h => h) (yieldsIf_load_cellP (by rfl) 3 _ rfl _ rfl (fun W hW => HC2.out W hW) (fun W hc => ld_int hc)) (by assumption) ?_
                        simp only [Act.put, List.setIfInBounds_toArray, List.set_cons_zero, List.set_cons_succ]
                        refine wpAnyH_take (i := 5) (oi := { dst := some 96, op := Op.fieldAddr 59 (Operand.tmp 95) 0, type := 0, pos := "law.go:200", after := #[{ on := 4, ground := Ground.data }, { on := 1, ground := Ground.guard }], guard := some (1, false) }) (v := .pointer (some ⟨gM, (j * 2), none⟩)) rfl (by kernel_rfl) (by kernel_rfl) (by kernel_rfl) (fun _ _ _ h => h) (Or.inl ⟨by rfl, fun w' hSw => by clear hSw; go_simp⟩) (by assumption) ?_
                        simp only [Act.put, List.setIfInBounds_toArray, List.set_cons_zero, List.set_cons_succ]
                        refine wpAnyH_take (i := 6) (oi := { dst := some 97, op := Op.load 3 (Operand.tmp 96), type := 3, pos := "law.go:200", after := #[{ on := 5, ground := Ground.data }, { on := 1, ground := Ground.guard }], guard := some (1, false) }) (v := .int .i64 px) rfl (by kernel_rfl) (by kernel_rfl) (by kernel_rfl) (fun _ _ _ h => h) (yieldsIf_load_cellP (by rfl) 3 _ rfl _ rfl (fun W hW => HC0.out W hW) (fun W hc => ld_int hc)) (by assumption) ?_
                        simp only [Act.put, List.setIfInBounds_toArray, List.set_cons_zero, List.set_cons_succ]
                        refine wpAnyH_take (i := 9) (oi := { dst := some 100, op := Op.binOp BinOp.eql 3 (Operand.tmp 97) (Operand.tmp 99) 3, type := 4, pos := "law.go:200", after := #[{ on := 6, ground := Ground.data }, { on := 8, ground := Ground.data }, { on := 1, ground := Ground.guard }], guard := some (1, false) }) (v := .bool true) rfl (by kernel_rfl) (by kernel_rfl) (by kernel_rfl) (fun _ _ _ h => h) (Or.inl ⟨by rfl, fun w' hSw => by clear hSw; go_simp⟩) (by assumption) ?_
                        simp only [Act.put, List.setIfInBounds_toArray, List.set_cons_zero, List.set_cons_succ]
                        refine wpAnyH_take (i := 10) (oi := { dst := some 101, op := Op.move (Operand.tmp 100), type := 4, pos := "law.go:200", after := #[{ on := 9, ground := Ground.data }, { on := 1, ground := Ground.chain }, { on := 1, ground := Ground.guard }], guard := some (1, false) }) (v := .bool true) rfl (by kernel_rfl) (by kernel_rfl) (by kernel_rfl) (fun _ _ _ h => h) (Or.inl ⟨by rfl, fun w' hSw => by clear hSw; go_simp⟩) (by assumption) ?_
                        simp only [Act.put, List.setIfInBounds_toArray, List.set_cons_zero, List.set_cons_succ]
                        refine wpAnyH_take (i := 11) (oi := { dst := some 102, op := Op.move (Operand.tmp 5), type := 51, pos := "law.go:200", after := #[{ on := 10, ground := Ground.guard }], guard := some (10, true) }) (v := .slice (some ⟨gM, 0, none⟩) M3.length cB) rfl (by kernel_rfl) (by kernel_rfl) (by kernel_rfl) (fun _ _ _ h => h) (Or.inl ⟨by rfl, fun w' hSw => by clear hSw; go_simp⟩) (by assumption) ?_
                        simp only [Act.put, List.setIfInBounds_toArray, List.set_cons_zero, List.set_cons_succ]
                        refine wpAnyH_take (i := 12) (oi := { dst := some 103, op := Op.move (Operand.tmp 12), type := 3, pos := "law.go:200", after := #[{ on := 10, ground := Ground.guard }], guard := some (10, true) }) (v := .int .i64 (j : Int)) rfl (by kernel_rfl) (by kernel_rfl) (by kernel_rfl) (fun _ _ _ h => h) (Or.inl ⟨by rfl, fun w' hSw => by clear hSw; go_simp⟩) (by assumption) ?_
                        simp only [Act.put, List.setIfInBounds_toArray, List.set_cons_zero, List.set_cons_succ]
                        refine wpAnyH_take (i := 16) (oi := { dst := some 107, op := Op.fieldAddr 37 (Operand.tmp 9) 3, type := 0, pos := "law.go:200", after := #[{ on := 10, ground := Ground.guard }], guard := some (10, true) }) (v := .pointer (some ⟨b9, 4, none⟩)) rfl (by kernel_rfl) (by kernel_rfl) (by kernel_rfl) (fun _ _ _ h => h) (Or.inl ⟨by rfl, fun w' hSw => by clear hSw; go_simp⟩) (by assumption) ?_
                        simp only [Act.put, List.setIfInBounds_toArray, List.set_cons_zero, List.set_cons_succ]
                        refine wpAnyH_take (i := 13) (oi := { dst := some 104, op := Op.indexAddr 51 (Operand.tmp 102) (Operand.tmp 103), type := 0, pos := "law.go:200", after := #[{ on := 11, ground := Ground.data }, { on := 12, ground := Ground.data }, { on := 10, ground := Ground.guard }], guard := some (10, true) }) (v := .pointer (some ⟨gM, (j * 2), none⟩)) rfl (by kernel_rfl) (by kernel_rfl) (by kernel_rfl) (fun _ _ _ h => h) (Or.inl ⟨by rfl, fun w' hSw => by clear hSw; go_simp⟩) (by assumption) ?_
                        simp only [Act.put, List.setIfInBounds_toArray, List.set_cons_zero, List.set_cons_succ]
                        refine wpAnyH_take (i := 17) (oi := { dst := some 108, op := Op.load 3 (Operand.tmp 107), type := 3, pos := "law.go:200", after := #[{ on := 16, ground := Ground.data }, { on := 10, ground := Ground.guard }], guard := some (10, true) }) (v := .int .i64 la) rfl (by kernel_rfl) (by kernel_rfl) (by kernel_rfl) (fun _ _ _ h => h) (yieldsIf_load_cellP (by rfl) 3 _ rfl _ rfl (fun W hW => HC4.out W hW) (fun W hc => ld_int hc)) (by assumption) ?_
                        simp only [Act.put, List.setIfInBounds_toArray, List.set_cons_zero, List.set_cons_succ]
                        refine wpAnyH_take (i := 14) (oi := { dst := some 105, op := Op.fieldAddr 59 (Operand.tmp 104) 1, type := 0, pos := "law.go:200", after := #[{ on := 13, ground := Ground.data }, { on := 10, ground := Ground.guard }], guard := some (10, true) }) (v := .pointer (some ⟨gM, (j * 2) + 1, none⟩)) rfl (by kernel_rfl) (by kernel_rfl) (by kernel_rfl) (fun _ _ _ h => h) (Or.inl ⟨by rfl, fun w' hSw => by clear hSw; go_simp⟩) (by assumption) ?_
                        simp only [Act.put, List.setIfInBounds_toArray, List.set_cons_zero, List.set_cons_succ]
                        refine wpAnyH_take (i := 15) (oi := { dst := some 106, op := Op.load 3 (Operand.tmp 105), type := 3, pos := "law.go:200", after := #[{ on := 14, ground := Ground.data }, { on := 10, ground := Ground.guard }], guard := some (10, true) }) (v := .int .i64 py) rfl (by kernel_rfl) (by kernel_rfl) (by kernel_rfl) (fun _ _ _ h => h) (yieldsIf_load_cellP (by rfl) 3 _ rfl _ rfl (fun W hW => HC1.out W hW) (fun W hc => ld_int hc)) (by assumption) ?_
                        simp only [Act.put, List.setIfInBounds_toArray, List.set_cons_zero, List.set_cons_succ]
                        refine wpAnyH_take (i := 18) (oi := { dst := some 109, op := Op.binOp BinOp.eql 3 (Operand.tmp 106) (Operand.tmp 108) 3, type := 4, pos := "law.go:200", after := #[{ on := 15, ground := Ground.data }, { on := 17, ground := Ground.data }, { on := 10, ground := Ground.guard }], guard := some (10, true) }) (v := .bool true) rfl (by kernel_rfl) (by kernel_rfl) (by kernel_rfl) (fun _ _ _ h => h) (Or.inl ⟨by rfl, fun w' hSw => by clear hSw; go_simp⟩) (by assumption) ?_
                        simp only [Act.put, List.setIfInBounds_toArray, List.set_cons_zero, List.set_cons_succ]
                        refine wpAnyH_take (i := 19) (oi := { dst := some 110, op := Op.pick (Operand.tmp 101) (Operand.tmp 109) (Operand.const (Value.bool false)), type := 4, pos := "law.go:200", after := #[{ on := 10, ground := Ground.data }, { on := 18, ground := Ground.data }, { on := 1, ground := Ground.guard }], guard := some (1, false) }) (v := .bool true) rfl (by kernel_rfl) (by kernel_rfl) (by kernel_rfl) (fun _ _ _ h => h) (Or.inl ⟨by rfl, fun w' hSw => by clear hSw; go_simp⟩) (by assumption) ?_
                        simp only [Act.put, List.setIfInBounds_toArray, List.set_cons_zero, List.set_cons_succ]
                        refine wpAnyH_take (i := 20) (oi := { dst := some 111, op := Op.pick (Operand.tmp 92) (Operand.const (Value.bool true)) (Operand.tmp 110), type := 4, pos := "law.go:200", after := #[{ on := 1, ground := Ground.data }, { on := 19, ground := Ground.data }], guard := none }) (v := .bool true) rfl (by kernel_rfl) (by kernel_rfl) (by kernel_rfl) (fun _ _ _ h => h) (Or.inl ⟨by rfl, fun w' hSw => by clear hSw; go_simp⟩) (by assumption) ?_
                        simp only [Act.put, List.setIfInBounds_toArray, List.set_cons_zero, List.set_cons_succ]
                        refine wpAnyH_take (i := 21) (oi := { dst := some 11, op := Op.assign (Operand.tmp 111), type := 4, pos := "law.go:200", after := #[{ on := 20, ground := Ground.data }, { on := 10, ground := Ground.chain }, { on := 0, ground := Ground.phase }, { on := 1, ground := Ground.phase }, { on := 2, ground := Ground.phase }, { on := 3, ground := Ground.phase }, { on := 4, ground := Ground.phase }, { on := 5, ground := Ground.phase }, { on := 6, ground := Ground.phase }, { on := 7, ground := Ground.phase }, { on := 8, ground := Ground.phase }, { on := 9, ground := Ground.phase }, { on := 10, ground := Ground.phase }, { on := 11, ground := Ground.phase }, { on := 12, ground := Ground.phase }, { on := 13, ground := Ground.phase }, { on := 14, ground := Ground.phase }, { on := 15, ground := Ground.phase }, { on := 16, ground := Ground.phase }, { on := 17, ground := Ground.phase }, { on := 18, ground := Ground.phase }, { on := 19, ground := Ground.phase }, { on := 20, ground := Ground.phase }], guard := none }) (v := .bool true) rfl (by kernel_rfl) (by kernel_rfl) (by kernel_rfl) (fun _ _ _ h => h) (Or.inl ⟨by rfl, fun w' hSw => by clear hSw; go_simp⟩) (by assumption) ?_
                        simp only [Act.put, List.setIfInBounds_toArray, List.set_cons_zero, List.set_cons_succ]
                        refine wpAnyH_done (by kernel_rfl) ?_ _
                        refine NoPanic.normal ?_
                        go_wp2_with fail
                        refine ⟨⟨true, j + 1, rfl, by omega, by go_num, ?_, o2 HO9.out (Only.drew _ wr4)⟩, by simp [intOf]; omega⟩
                        exact fun _ _ _ _ => rfl
                      · have e2 : (py == la) = false := by simp [h2]
                        have HNE : Hid (M3[j] ≠ (xi, la)) := fun e => h2 (by rw [← HPY.out, e])
                        clear h1 h2
                        go_upto_region 25 with fail
                        refine wp_region_noPanic ?_
                        refine wp_region_held_drew (S := fun W => Only (fun _ => False) wr4 W) (by kernel_rfl) (Only.drew _ wr4) (fun hHeld => ?_)
                        refine wpAnyH_take (i := 0) (oi := { dst := some 91, op := Op.move (Operand.tmp 11), type := 4, pos := "law.go:200", after := #[], guard := none }) (v := .bool false) rfl (by kernel_rfl) (by kernel_rfl) (by kernel_rfl) (fun _ _ _ h => h) (Or.inl ⟨by rfl, fun w' hSw => by clear hSw; go_simp⟩) (by assumption) ?_
                        simp only [Act.put, List.setIfInBounds_toArray, List.set_cons_zero, List.set_cons_succ]
                        refine wpAnyH_take (i := 1) (oi := { dst := some 92, op := Op.move (Operand.tmp 91), type := 4, pos := "law.go:200", after := #[{ on := 0, ground := Ground.data }], guard := none }) (v := .bool false) rfl (by kernel_rfl) (by kernel_rfl) (by kernel_rfl) (fun _ _ _ h => h) (Or.inl ⟨by rfl, fun w' hSw => by clear hSw; go_simp⟩) (by assumption) ?_
                        simp only [Act.put, List.setIfInBounds_toArray, List.set_cons_zero, List.set_cons_succ]
                        refine wpAnyH_take (i := 2) (oi := { dst := some 93, op := Op.move (Operand.tmp 5), type := 51, pos := "law.go:200", after := #[{ on := 1, ground := Ground.guard }], guard := some (1, false) }) (v := .slice (some ⟨gM, 0, none⟩) M3.length cB) rfl (by kernel_rfl) (by kernel_rfl) (by kernel_rfl) (fun _ _ _ h => h) (Or.inl ⟨by rfl, fun w' hSw => by clear hSw; go_simp⟩) (by assumption) ?_
                        simp only [Act.put, List.setIfInBounds_toArray, List.set_cons_zero, List.set_cons_succ]
                        refine wpAnyH_take (i := 3) (oi := { dst := some 94, op := Op.move (Operand.tmp 12), type := 3, pos := "law.go:200", after := #[{ on := 1, ground := Ground.guard }], guard := some (1, false) }) (v := .int .i64 (j : Int)) rfl (by kernel_rfl) (by kernel_rfl) (by kernel_rfl) (fun _ _ _ h => h) (Or.inl ⟨by rfl, fun w' hSw => by clear hSw; go_simp⟩) (by assumption) ?_
                        simp only [Act.put, List.setIfInBounds_toArray, List.set_cons_zero, List.set_cons_succ]
                        refine wpAnyH_take (i := 7) (oi := { dst := some 98, op := Op.fieldAddr 37 (Operand.tmp 9) 1, type := 0, pos := "law.go:200", after := #[{ on := 1, ground := Ground.guard }], guard := some (1, false) }) (v := .pointer (some ⟨b9, 2, none⟩)) rfl (by kernel_rfl) (by kernel_rfl) (by kernel_rfl) (fun _ _ _ h => h) (Or.inl ⟨by rfl, fun w' hSw => by clear hSw; go_simp⟩) (by assumption) ?_
                        simp only [Act.put, List.setIfInBounds_toArray, List.set_cons_zero, List.set_cons_succ]
                        refine wpAnyH_take (i := 4) (oi := { dst := some 95, op := Op.indexAddr 51 (Operand.tmp 93) (Operand.tmp 94), type := 0, pos := "law.go:200", after := #[{ on := 2, ground := Ground.data }, { on := 3, ground := Ground.data }, { on := 1, ground := Ground.guard }], guard := some (1, false) }) (v := .pointer (some ⟨gM, (j * 2), none⟩)) rfl (by kernel_rfl) (by kernel_rfl) (by kernel_rfl) (fun _ _ _ h => h) (Or.inl ⟨by rfl, fun w' hSw => by clear hSw; go_simp⟩) (by assumption) ?_
                        simp only [Act.put, List.setIfInBounds_toArray, List.set_cons_zero, List.set_cons_succ]
                        refine wpAnyH_take (i := 8) (oi := { dst := some 99, op := Op.load 3 (Operand.tmp 98), type := 3, pos := "law.go:200", after := #[{ on := 7, ground := Ground.data }, { on := 1, ground := Ground.guard }], guard := some (1, false) }) (v := .int .i64 xi) rfl (by kernel_rfl) (by kernel_rfl) (by kernel_rfl) (fun _ _ _ h => h) (yieldsIf_load_cellP (by rfl) 3 _ rfl _ rfl (fun W hW => HC2.out W hW) (fun W hc => ld_int hc)) (by assumption) ?_
                        simp only [Act.put, List.setIfInBounds_toArray, List.set_cons_zero, List.set_cons_succ]
                        refine wpAnyH_take (i := 5) (oi := { dst := some 96, op := Op.fieldAddr 59 (Operand.tmp 95) 0, type := 0, pos := "law.go:200", after := #[{ on := 4, ground := Ground.data }, { on := 1, ground := Ground.guard }], guard := some (1, false) }) (v := .pointer (some ⟨gM, (j * 2), none⟩)) rfl (by kernel_rfl) (by kernel_rfl) (by kernel_rfl) (fun _ _ _ h => h) (Or.inl ⟨by rfl, fun w' hSw => by clear hSw; go_simp⟩) (by assumption) ?_
                        simp only [Act.put, List.setIfInBounds_toArray, List.set_cons_zero, List.set_cons_succ]
                        refine wpAnyH_take (i := 6) (oi := { dst := some 97, op := Op.load 3 (Operand.tmp 96), type := 3, pos := "law.go:200", after := #[{ on := 5, ground := Ground.data }, { on := 1, ground := Ground.guard }], guard := some (1, false) }) (v := .int .i64 px) rfl (by kernel_rfl) (by kernel_rfl) (by kernel_rfl) (fun _ _ _ h => h) (yieldsIf_load_cellP (by rfl) 3 _ rfl _ rfl (fun W hW => HC0.out W hW) (fun W hc => ld_int hc)) (by assumption) ?_
                        simp only [Act.put, List.setIfInBounds_toArray, List.set_cons_zero, List.set_cons_succ]
                        refine wpAnyH_take (i := 9) (oi := { dst := some 100, op := Op.binOp BinOp.eql 3 (Operand.tmp 97) (Operand.tmp 99) 3, type := 4, pos := "law.go:200", after := #[{ on := 6, ground := Ground.data }, { on := 8, ground := Ground.data }, { on := 1, ground := Ground.guard }], guard := some (1, false) }) (v := .bool true) rfl (by kernel_rfl) (by kernel_rfl) (by kernel_rfl) (fun _ _ _ h => h) (Or.inl ⟨by rfl, fun w' hSw => by clear hSw; go_simp⟩) (by assumption) ?_
                        simp only [Act.put, List.setIfInBounds_toArray, List.set_cons_zero, List.set_cons_succ]
                        refine wpAnyH_take (i := 10) (oi := { dst := some 101, op := Op.move (Operand.tmp 100), type := 4, pos := "law.go:200", after := #[{ on := 9, ground := Ground.data }, { on := 1, ground := Ground.chain }, { on := 1, ground := Ground.guard }], guard := some (1, false) }) (v := .bool true) rfl (by kernel_rfl) (by kernel_rfl) (by kernel_rfl) (fun _ _ _ h => h) (Or.inl ⟨by rfl, fun w' hSw => by clear hSw; go_simp⟩) (by assumption) ?_
                        simp only [Act.put, List.setIfInBounds_toArray, List.set_cons_zero, List.set_cons_succ]
                        refine wpAnyH_take (i := 11) (oi := { dst := some 102, op := Op.move (Operand.tmp 5), type := 51, pos := "law.go:200", after := #[{ on := 10, ground := Ground.guard }], guard := some (10, true) }) (v := .slice (some ⟨gM, 0, none⟩) M3.length cB) rfl (by kernel_rfl) (by kernel_rfl) (by kernel_rfl) (fun _ _ _ h => h) (Or.inl ⟨by rfl, fun w' hSw => by clear hSw; go_simp⟩) (by assumption) ?_
                        simp only [Act.put, List.setIfInBounds_toArray, List.set_cons_zero, List.set_cons_succ]
                        refine wpAnyH_take (i := 12) (oi := { dst := some 103, op := Op.move (Operand.tmp 12), type := 3, pos := "law.go:200", after := #[{ on := 10, ground := Ground.guard }], guard := some (10, true) }) (v := .int .i64 (j : Int)) rfl (by kernel_rfl) (by kernel_rfl) (by kernel_rfl) (fun _ _ _ h => h) (Or.inl ⟨by rfl, fun w' hSw => by clear hSw; go_simp⟩) (by assumption) ?_
                        simp only [Act.put, List.setIfInBounds_toArray, List.set_cons_zero, List.set_cons_succ]
                        refine wpAnyH_take (i := 16) (oi := { dst := some 107, op := Op.fieldAddr 37 (Operand.tmp 9) 3, type := 0, pos := "law.go:200", after := #[{ on := 10, ground := Ground.guard }], guard := some (10, true) }) (v := .pointer (some ⟨b9, 4, none⟩)) rfl (by kernel_rfl) (by kernel_rfl) (by kernel_rfl) (fun _ _ _ h => h) (Or.inl ⟨by rfl, fun w' hSw => by clear hSw; go_simp⟩) (by assumption) ?_
                        simp only [Act.put, List.setIfInBounds_toArray, List.set_cons_zero, List.set_cons_succ]
                        refine wpAnyH_take (i := 13) (oi := { dst := some 104, op := Op.indexAddr 51 (Operand.tmp 102) (Operand.tmp 103), type := 0, pos := "law.go:200", after := #[{ on := 11, ground := Ground.data }, { on := 12, ground := Ground.data }, { on := 10, ground := Ground.guard }], guard := some (10, true) }) (v := .pointer (some ⟨gM, (j * 2), none⟩)) rfl (by kernel_rfl) (by kernel_rfl) (by kernel_rfl) (fun _ _ _ h => h) (Or.inl ⟨by rfl, fun w' hSw => by clear hSw; go_simp⟩) (by assumption) ?_
                        simp only [Act.put, List.setIfInBounds_toArray, List.set_cons_zero, List.set_cons_succ]
                        refine wpAnyH_take (i := 17) (oi := { dst := some 108, op := Op.load 3 (Operand.tmp 107), type := 3, pos := "law.go:200", after := #[{ on := 16, ground := Ground.data }, { on := 10, ground := Ground.guard }], guard := some (10, true) }) (v := .int .i64 la) rfl (by kernel_rfl) (by kernel_rfl) (by kernel_rfl) (fun _ _ _ h => h) (yieldsIf_load_cellP (by rfl) 3 _ rfl _ rfl (fun W hW => HC4.out W hW) (fun W hc => ld_int hc)) (by assumption) ?_
                        simp only [Act.put, List.setIfInBounds_toArray, List.set_cons_zero, List.set_cons_succ]
                        refine wpAnyH_take (i := 14) (oi := { dst := some 105, op := Op.fieldAddr 59 (Operand.tmp 104) 1, type := 0, pos := "law.go:200", after := #[{ on := 13, ground := Ground.data }, { on := 10, ground := Ground.guard }], guard := some (10, true) }) (v := .pointer (some ⟨gM, (j * 2) + 1, none⟩)) rfl (by kernel_rfl) (by kernel_rfl) (by kernel_rfl) (fun _ _ _ h => h) (Or.inl ⟨by rfl, fun w' hSw => by clear hSw; go_simp⟩) (by assumption) ?_
                        simp only [Act.put, List.setIfInBounds_toArray, List.set_cons_zero, List.set_cons_succ]
                        refine wpAnyH_take (i := 15) (oi := { dst := some 106, op := Op.load 3 (Operand.tmp 105), type := 3, pos := "law.go:200", after := #[{ on := 14, ground := Ground.data }, { on := 10, ground := Ground.guard }], guard := some (10, true) }) (v := .int .i64 py) rfl (by kernel_rfl) (by kernel_rfl) (by kernel_rfl) (fun _ _ _ h => h) (yieldsIf_load_cellP (by rfl) 3 _ rfl _ rfl (fun W hW => HC1.out W hW) (fun W hc => ld_int hc)) (by assumption) ?_
                        simp only [Act.put, List.setIfInBounds_toArray, List.set_cons_zero, List.set_cons_succ]
                        refine wpAnyH_take (i := 18) (oi := { dst := some 109, op := Op.binOp BinOp.eql 3 (Operand.tmp 106) (Operand.tmp 108) 3, type := 4, pos := "law.go:200", after := #[{ on := 15, ground := Ground.data }, { on := 17, ground := Ground.data }, { on := 10, ground := Ground.guard }], guard := some (10, true) }) (v := .bool false) rfl (by kernel_rfl) (by kernel_rfl) (by kernel_rfl) (fun _ _ _ h => h) (Or.inl ⟨by rfl, fun w' hSw => by clear hSw; go_simp⟩) (by assumption) ?_
                        simp only [Act.put, List.setIfInBounds_toArray, List.set_cons_zero, List.set_cons_succ]
                        refine wpAnyH_take (i := 19) (oi := { dst := some 110, op := Op.pick (Operand.tmp 101) (Operand.tmp 109) (Operand.const (Value.bool false)), type := 4, pos := "law.go:200", after := #[{ on := 10, ground := Ground.data }, { on := 18, ground := Ground.data }, { on := 1, ground := Ground.guard }], guard := some (1, false) }) (v := .bool false) rfl (by kernel_rfl) (by kernel_rfl) (by kernel_rfl) (fun _ _ _ h => h) (Or.inl ⟨by rfl, fun w' hSw => by clear hSw; go_simp⟩) (by assumption) ?_
                        simp only [Act.put, List.setIfInBounds_toArray, List.set_cons_zero, List.set_cons_succ]
                        refine wpAnyH_take (i := 20) (oi := { dst := some 111, op := Op.pick (Operand.tmp 92) (Operand.const (Value.bool true)) (Operand.tmp 110), type := 4, pos := "law.go:200", after := #[{ on := 1, ground := Ground.data }, { on := 19, ground := Ground.data }], guard := none }) (v := .bool false) rfl (by kernel_rfl) (by kernel_rfl) (by kernel_rfl) (fun _ _ _ h => h) (Or.inl ⟨by rfl, fun w' hSw => by clear hSw; go_simp⟩) (by assumption) ?_
                        simp only [Act.put, List.setIfInBounds_toArray, List.set_cons_zero, List.set_cons_succ]
                        refine wpAnyH_take (i := 21) (oi := { dst := some 11, op := Op.assign (Operand.tmp 111), type := 4, pos := "law.go:200", after := #[{ on := 20, ground := Ground.data }, { on := 10, ground := Ground.chain }, { on := 0, ground := Ground.phase }, { on := 1, ground := Ground.phase }, { on := 2, ground := Ground.phase }, { on := 3, ground := Ground.phase }, { on := 4, ground := Ground.phase }, { on := 5, ground := Ground.phase }, { on := 6, ground := Ground.phase }, { on := 7, ground := Ground.phase }, { on := 8, ground := Ground.phase }, { on := 9, ground := Ground.phase }, { on := 10, ground := Ground.phase }, { on := 11, ground := Ground.phase }, { on := 12, ground := Ground.phase }, { on := 13, ground := Ground.phase }, { on := 14, ground := Ground.phase }, { on := 15, ground := Ground.phase }, { on := 16, ground := Ground.phase }, { on := 17, ground := Ground.phase }, { on := 18, ground := Ground.phase }, { on := 19, ground := Ground.phase }, { on := 20, ground := Ground.phase }], guard := none }) (v := .bool false) rfl (by kernel_rfl) (by kernel_rfl) (by kernel_rfl) (fun _ _ _ h => h) (Or.inl ⟨by rfl, fun w' hSw => by clear hSw; go_simp⟩) (by assumption) ?_
                        simp only [Act.put, List.setIfInBounds_toArray, List.set_cons_zero, List.set_cons_succ]
                        refine wpAnyH_done (by kernel_rfl) ?_ _
                        refine NoPanic.normal ?_
                        go_wp2_with fail
                        refine ⟨⟨false, j + 1, rfl, by omega, by go_num, ?_, o2 HO9.out (Only.drew _ wr4)⟩, by simp [intOf]; omega⟩
                        intro i hi h1 e
                        by_cases ei : i = j
                        · subst ei
                          exact absurd e HNE.out
                        · exact absurd e (HQF.out i hi (by omega))
                    · have e1 : (px == xi) = false := by simp [h1]
                      have HNE : Hid (M3[j] ≠ (xi, la)) := fun e => h1 (by rw [← HPX.out, e])
                      clear h1
                      go_upto_region 25 with fail
                      refine wp_region_noPanic ?_
                      refine wp_region_held_drew (S := fun W => Only (fun _ => False) wr4 W) (by kernel_rfl) (Only.drew _ wr4) (fun hHeld => ?_)
                      refine wpAnyH_take (i := 0) (oi := { dst := some 91, op := Op.move (Operand.tmp 11), type := 4, pos := "law.go:200", after := #[], guard := none }) (v := .bool false) rfl (by kernel_rfl) (by kernel_rfl) (by kernel_rfl) (fun _ _ _ h => h) (Or.inl ⟨by rfl, fun w' hSw => by clear hSw; go_simp⟩) (by assumption) ?_
                      simp only [Act.put, List.setIfInBounds_toArray, List.set_cons_zero, List.set_cons_succ]
                      refine wpAnyH_take (i := 1) (oi := { dst := some 92, op := Op.move (Operand.tmp 91), type := 4, pos := "law.go:200", after := #[{ on := 0, ground := Ground.data }], guard := none }) (v := .bool false) rfl (by kernel_rfl) (by kernel_rfl) (by kernel_rfl) (fun _ _ _ h => h) (Or.inl ⟨by rfl, fun w' hSw => by clear hSw; go_simp⟩) (by assumption) ?_
                      simp only [Act.put, List.setIfInBounds_toArray, List.set_cons_zero, List.set_cons_succ]
                      refine wpAnyH_take (i := 2) (oi := { dst := some 93, op := Op.move (Operand.tmp 5), type := 51, pos := "law.go:200", after := #[{ on := 1, ground := Ground.guard }], guard := some (1, false) }) (v := .slice (some ⟨gM, 0, none⟩) M3.length cB) rfl (by kernel_rfl) (by kernel_rfl) (by kernel_rfl) (fun _ _ _ h => h) (Or.inl ⟨by rfl, fun w' hSw => by clear hSw; go_simp⟩) (by assumption) ?_
                      simp only [Act.put, List.setIfInBounds_toArray, List.set_cons_zero, List.set_cons_succ]
                      refine wpAnyH_take (i := 3) (oi := { dst := some 94, op := Op.move (Operand.tmp 12), type := 3, pos := "law.go:200", after := #[{ on := 1, ground := Ground.guard }], guard := some (1, false) }) (v := .int .i64 (j : Int)) rfl (by kernel_rfl) (by kernel_rfl) (by kernel_rfl) (fun _ _ _ h => h) (Or.inl ⟨by rfl, fun w' hSw => by clear hSw; go_simp⟩) (by assumption) ?_
                      simp only [Act.put, List.setIfInBounds_toArray, List.set_cons_zero, List.set_cons_succ]
                      refine wpAnyH_take (i := 7) (oi := { dst := some 98, op := Op.fieldAddr 37 (Operand.tmp 9) 1, type := 0, pos := "law.go:200", after := #[{ on := 1, ground := Ground.guard }], guard := some (1, false) }) (v := .pointer (some ⟨b9, 2, none⟩)) rfl (by kernel_rfl) (by kernel_rfl) (by kernel_rfl) (fun _ _ _ h => h) (Or.inl ⟨by rfl, fun w' hSw => by clear hSw; go_simp⟩) (by assumption) ?_
                      simp only [Act.put, List.setIfInBounds_toArray, List.set_cons_zero, List.set_cons_succ]
                      refine wpAnyH_take (i := 4) (oi := { dst := some 95, op := Op.indexAddr 51 (Operand.tmp 93) (Operand.tmp 94), type := 0, pos := "law.go:200", after := #[{ on := 2, ground := Ground.data }, { on := 3, ground := Ground.data }, { on := 1, ground := Ground.guard }], guard := some (1, false) }) (v := .pointer (some ⟨gM, (j * 2), none⟩)) rfl (by kernel_rfl) (by kernel_rfl) (by kernel_rfl) (fun _ _ _ h => h) (Or.inl ⟨by rfl, fun w' hSw => by clear hSw; go_simp⟩) (by assumption) ?_
                      simp only [Act.put, List.setIfInBounds_toArray, List.set_cons_zero, List.set_cons_succ]
                      refine wpAnyH_take (i := 8) (oi := { dst := some 99, op := Op.load 3 (Operand.tmp 98), type := 3, pos := "law.go:200", after := #[{ on := 7, ground := Ground.data }, { on := 1, ground := Ground.guard }], guard := some (1, false) }) (v := .int .i64 xi) rfl (by kernel_rfl) (by kernel_rfl) (by kernel_rfl) (fun _ _ _ h => h) (yieldsIf_load_cellP (by rfl) 3 _ rfl _ rfl (fun W hW => HC2.out W hW) (fun W hc => ld_int hc)) (by assumption) ?_
                      simp only [Act.put, List.setIfInBounds_toArray, List.set_cons_zero, List.set_cons_succ]
                      refine wpAnyH_take (i := 5) (oi := { dst := some 96, op := Op.fieldAddr 59 (Operand.tmp 95) 0, type := 0, pos := "law.go:200", after := #[{ on := 4, ground := Ground.data }, { on := 1, ground := Ground.guard }], guard := some (1, false) }) (v := .pointer (some ⟨gM, (j * 2), none⟩)) rfl (by kernel_rfl) (by kernel_rfl) (by kernel_rfl) (fun _ _ _ h => h) (Or.inl ⟨by rfl, fun w' hSw => by clear hSw; go_simp⟩) (by assumption) ?_
                      simp only [Act.put, List.setIfInBounds_toArray, List.set_cons_zero, List.set_cons_succ]
                      refine wpAnyH_take (i := 6) (oi := { dst := some 97, op := Op.load 3 (Operand.tmp 96), type := 3, pos := "law.go:200", after := #[{ on := 5, ground := Ground.data }, { on := 1, ground := Ground.guard }], guard := some (1, false) }) (v := .int .i64 px) rfl (by kernel_rfl) (by kernel_rfl) (by kernel_rfl) (fun _ _ _ h => h) (yieldsIf_load_cellP (by rfl) 3 _ rfl _ rfl (fun W hW => HC0.out W hW) (fun W hc => ld_int hc)) (by assumption) ?_
                      simp only [Act.put, List.setIfInBounds_toArray, List.set_cons_zero, List.set_cons_succ]
                      refine wpAnyH_take (i := 9) (oi := { dst := some 100, op := Op.binOp BinOp.eql 3 (Operand.tmp 97) (Operand.tmp 99) 3, type := 4, pos := "law.go:200", after := #[{ on := 6, ground := Ground.data }, { on := 8, ground := Ground.data }, { on := 1, ground := Ground.guard }], guard := some (1, false) }) (v := .bool false) rfl (by kernel_rfl) (by kernel_rfl) (by kernel_rfl) (fun _ _ _ h => h) (Or.inl ⟨by rfl, fun w' hSw => by clear hSw; go_simp⟩) (by assumption) ?_
                      simp only [Act.put, List.setIfInBounds_toArray, List.set_cons_zero, List.set_cons_succ]
                      refine wpAnyH_take (i := 10) (oi := { dst := some 101, op := Op.move (Operand.tmp 100), type := 4, pos := "law.go:200", after := #[{ on := 9, ground := Ground.data }, { on := 1, ground := Ground.chain }, { on := 1, ground := Ground.guard }], guard := some (1, false) }) (v := .bool false) rfl (by kernel_rfl) (by kernel_rfl) (by kernel_rfl) (fun _ _ _ h => h) (Or.inl ⟨by rfl, fun w' hSw => by clear hSw; go_simp⟩) (by assumption) ?_
                      simp only [Act.put, List.setIfInBounds_toArray, List.set_cons_zero, List.set_cons_succ]
                      refine wpAnyH_take (i := 11) (oi := { dst := some 102, op := Op.move (Operand.tmp 5), type := 51, pos := "law.go:200", after := #[{ on := 10, ground := Ground.guard }], guard := some (10, true) }) (v := undef) rfl (by kernel_rfl) (by kernel_rfl) (by kernel_rfl) (fun _ _ _ h => h) (Or.inr ⟨by rfl, rfl⟩) (by assumption) ?_
                      simp only [Act.put, List.setIfInBounds_toArray, List.set_cons_zero, List.set_cons_succ]
                      refine wpAnyH_take (i := 12) (oi := { dst := some 103, op := Op.move (Operand.tmp 12), type := 3, pos := "law.go:200", after := #[{ on := 10, ground := Ground.guard }], guard := some (10, true) }) (v := undef) rfl (by kernel_rfl) (by kernel_rfl) (by kernel_rfl) (fun _ _ _ h => h) (Or.inr ⟨by rfl, rfl⟩) (by assumption) ?_
                      simp only [Act.put, List.setIfInBounds_toArray, List.set_cons_zero, List.set_cons_succ]
                      refine wpAnyH_take (i := 16) (oi := { dst := some 107, op := Op.fieldAddr 37 (Operand.tmp 9) 3, type := 0, pos := "law.go:200", after := #[{ on := 10, ground := Ground.guard }], guard := some (10, true) }) (v := undef) rfl (by kernel_rfl) (by kernel_rfl) (by kernel_rfl) (fun _ _ _ h => h) (Or.inr ⟨by rfl, rfl⟩) (by assumption) ?_
                      simp only [Act.put, List.setIfInBounds_toArray, List.set_cons_zero, List.set_cons_succ]
                      refine wpAnyH_take (i := 13) (oi := { dst := some 104, op := Op.indexAddr 51 (Operand.tmp 102) (Operand.tmp 103), type := 0, pos := "law.go:200", after := #[{ on := 11, ground := Ground.data }, { on := 12, ground := Ground.data }, { on := 10, ground := Ground.guard }], guard := some (10, true) }) (v := undef) rfl (by kernel_rfl) (by kernel_rfl) (by kernel_rfl) (fun _ _ _ h => h) (Or.inr ⟨by rfl, rfl⟩) (by assumption) ?_
                      simp only [Act.put, List.setIfInBounds_toArray, List.set_cons_zero, List.set_cons_succ]
                      refine wpAnyH_take (i := 17) (oi := { dst := some 108, op := Op.load 3 (Operand.tmp 107), type := 3, pos := "law.go:200", after := #[{ on := 16, ground := Ground.data }, { on := 10, ground := Ground.guard }], guard := some (10, true) }) (v := undef) rfl (by kernel_rfl) (by kernel_rfl) (by kernel_rfl) (fun _ _ _ h => h) (Or.inr ⟨by rfl, rfl⟩) (by assumption) ?_
                      simp only [Act.put, List.setIfInBounds_toArray, List.set_cons_zero, List.set_cons_succ]
                      refine wpAnyH_take (i := 14) (oi := { dst := some 105, op := Op.fieldAddr 59 (Operand.tmp 104) 1, type := 0, pos := "law.go:200", after := #[{ on := 13, ground := Ground.data }, { on := 10, ground := Ground.guard }], guard := some (10, true) }) (v := undef) rfl (by kernel_rfl) (by kernel_rfl) (by kernel_rfl) (fun _ _ _ h => h) (Or.inr ⟨by rfl, rfl⟩) (by assumption) ?_
                      simp only [Act.put, List.setIfInBounds_toArray, List.set_cons_zero, List.set_cons_succ]
                      refine wpAnyH_take (i := 15) (oi := { dst := some 106, op := Op.load 3 (Operand.tmp 105), type := 3, pos := "law.go:200", after := #[{ on := 14, ground := Ground.data }, { on := 10, ground := Ground.guard }], guard := some (10, true) }) (v := undef) rfl (by kernel_rfl) (by kernel_rfl) (by kernel_rfl) (fun _ _ _ h => h) (Or.inr ⟨by rfl, rfl⟩) (by assumption) ?_
                      simp only [Act.put, List.setIfInBounds_toArray, List.set_cons_zero, List.set_cons_succ]
                      refine wpAnyH_take (i := 18) (oi := { dst := some 109, op := Op.binOp BinOp.eql 3 (Operand.tmp 106) (Operand.tmp 108) 3, type := 4, pos := "law.go:200", after := #[{ on := 15, ground := Ground.data }, { on := 17, ground := Ground.data }, { on := 10, ground := Ground.guard }], guard := some (10, true) }) (v := undef) rfl (by kernel_rfl) (by kernel_rfl) (by kernel_rfl) (fun _ _ _ h => h) (Or.inr ⟨by rfl, rfl⟩) (by assumption) ?_
                      simp only [Act.put, List.setIfInBounds_toArray, List.set_cons_zero, List.set_cons_succ]
                      refine wpAnyH_take (i := 19) (oi := { dst := some 110, op := Op.pick (Operand.tmp 101) (Operand.tmp 109) (Operand.const (Value.bool false)), type := 4, pos := "law.go:200", after := #[{ on := 10, ground := Ground.data }, { on := 18, ground := Ground.data }, { on := 1, ground := Ground.guard }], guard := some (1, false) }) (v := .bool false) rfl (by kernel_rfl) (by kernel_rfl) (by kernel_rfl) (fun _ _ _ h => h) (Or.inl ⟨by rfl, fun w' hSw => by clear hSw; go_simp⟩) (by assumption) ?_
                      simp only [Act.put, List.setIfInBounds_toArray, List.set_cons_zero, List.set_cons_succ]
                      refine wpAnyH_take (i := 20) (oi := { dst := some 111, op := Op.pick (Operand.tmp 92) (Operand.const (Value.bool true)) (Operand.tmp 110), type := 4, pos := "law.go:200", after := #[{ on := 1, ground := Ground.data }, { on := 19, ground := Ground.data }], guard := none }) (v := .bool false) rfl (by kernel_rfl) (by kernel_rfl) (by kernel_rfl) (fun _ _ _ h => h) (Or.inl ⟨by rfl, fun w' hSw => by clear hSw; go_simp⟩) (by assumption) ?_
                      simp only [Act.put, List.setIfInBounds_toArray, List.set_cons_zero, List.set_cons_succ]
                      refine wpAnyH_take (i := 21) (oi := { dst := some 11, op := Op.assign (Operand.tmp 111), type := 4, pos := "law.go:200", after := #[{ on := 20, ground := Ground.data }, { on := 10, ground := Ground.chain }, { on := 0, ground := Ground.phase }, { on := 1, ground := Ground.phase }, { on := 2, ground := Ground.phase }, { on := 3, ground := Ground.phase }, { on := 4, ground := Ground.phase }, { on := 5, ground := Ground.phase }, { on := 6, ground := Ground.phase }, { on := 7, ground := Ground.phase }, { on := 8, ground := Ground.phase }, { on := 9, ground := Ground.phase }, { on := 10, ground := Ground.phase }, { on := 11, ground := Ground.phase }, { on := 12, ground := Ground.phase }, { on := 13, ground := Ground.phase }, { on := 14, ground := Ground.phase }, { on := 15, ground := Ground.phase }, { on := 16, ground := Ground.phase }, { on := 17, ground := Ground.phase }, { on := 18, ground := Ground.phase }, { on := 19, ground := Ground.phase }, { on := 20, ground := Ground.phase }], guard := none }) (v := .bool false) rfl (by kernel_rfl) (by kernel_rfl) (by kernel_rfl) (fun _ _ _ h => h) (Or.inl ⟨by rfl, fun w' hSw => by clear hSw; go_simp⟩) (by assumption) ?_
                      simp only [Act.put, List.setIfInBounds_toArray, List.set_cons_zero, List.set_cons_succ]
                      refine wpAnyH_done (by kernel_rfl) ?_ _
                      refine NoPanic.normal ?_
                      go_wp2_with fail
                      refine ⟨⟨false, j + 1, rfl, by omega, by go_num, ?_, o2 HO9.out (Only.drew _ wr4)⟩, by simp [intOf]; omega⟩
                      intro i hi h1 e
                      by_cases ei : i = j
                      · subst ei
                        exact absurd e HNE.out
                      · exact absurd e (HQF.out i hi (by omega))
                · have HQA : Hid ((xi, la) ∈ M3 → d = true) := fun hm => by
                    obtain ⟨i, hi, e⟩ := List.getElem_of_mem hm
                    exact HQ.out i hi (by omega) e
                  have HDN : Hid (Only (fun _ => False) wr2 wr4) := o2 (o2 HO6.out HO8.out) HO9.out
                  clear HQ
                  cases is with
                  | false =>
                    go_wp2_with fail
                    go_roundw
                    case rel => exact ⟨k + 1, by omega, by go_num, HDN⟩
                    case measure => simp [intOf]; omega
                  | true =>
                    by_cases h0 : xi = 0
                    · have e0 : (xi != 0) = false := by simp [h0]
                      clear h0
                      go_wp2_with fail
                      go_roundw
                      case rel => exact ⟨k + 1, by omega, by go_num, HDN⟩
                      case measure => simp [intOf]; omega
                    · have e0 : (xi != 0) = true := by simp [h0]
                      obtain rfl : d = true := HQA.out (HMEM.out rfl h0)
                      clear h0
                      go_wp2_with fail
                      go_roundw
                      case rel => exact ⟨k + 1, by omega, by go_num, HDN⟩
                      case measure => simp [intOf]; omega
            · go_wp2_with fail
              refine (HAW.out _).mono ?_
              rintro e w16 ⟨rfl, ho16⟩
              have HO16 := hide (o2 HOW.out ho16)
              clear ho16
              go_wp2_with fail
              go_ret
              exact ⟨rfl, HO16.out⟩
end Go.Proofs.Ytmcghpeamnmbpaa
