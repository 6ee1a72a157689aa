/- Entries looked for: slices.Index; Entries, Kids, Beyond, Child of package node. -/
import Derived.Test.YthjjkhacniebiaaGreatK15
import Derived.Test.YthjjkhacniebiaaGreatK18
namespace Go.Proofs.YthjjkhacniebiaaGreat
open Go.RowKit

/-- Where an entry stands, or -1. -/
def idxE (es : List En) (e : En) : Int := if e ∈ es then (plE es e : Int) else -1
theorem plE_at {es : List En} (hr : Rise es) (i : Nat) (h : i < es.length) : plE es es[i] = i := by
  refine plE_of (Nat.le_of_lt h) ?_ (drop_nlt hr i h (En.lt_irrefl _))
  intro z hz
  obtain ⟨k, hk, rfl⟩ := List.mem_iff_getElem.1 hz
  rw [List.length_take] at hk
  rw [List.getElem_take]
  exact List.pairwise_iff_getElem.1 hr k i (by omega) h (by omega)
set_option maxHeartbeats 1600000 in
theorem indexE_any (w : World) (B n C : Nat) (A : Option Addr) (es : List En) (e : En) (hE : Els w B A es) (hn : es.length = n) (hl : n ≤ 1048576) (hr : Rise es) :
    Calls Tryz.prog 48 #[.slice A n C, e.agg] w fun x w' => x = .returned (.int .i64 (idxE es e)) ∧ Only (fun _ => False) w w' := by
  have HE := hide hE
  have HN := hide hn
  have HR := hide hr
  have HV := hide (Ev.new w e)
  have HO := hide (onlyA w (.cells #[.string e.key, .int .i64 e.page, .int .i64 e.slot] 41))
  clear hE hn hr
  unfold En.agg
  go_enter Tryz.func48, Tryz.ntmps48
  go_upto_region 2 with fail
  obtain ⟨W0, hW0⟩ : ∃ x, w.alloc (.cells #[.string e.key, .int .i64 e.page, .int .i64 e.slot] 41) = x := ⟨_, rfl⟩
  rw [hW0] at HV HO ⊢
  clear hW0
  go_loopw [8] (fun x wr => ∃ (j : Nat), x = .int .i64 (j : Int) ∧ j ≤ n ∧ Hid (∀ z ∈ es.take j, z ≠ e) ∧ Hid (Only (fun _ => False) W0 wr)) (fun x _ => n - (intOf x).toNat)
  case atStart => exact ⟨0, rfl, Nat.zero_le _, hide (fun z hz => by simp at hz), hide (Only.refl _ _)⟩
  case round =>
    obtain ⟨j, rfl, hjn, HI, HW⟩ := hrel
    by_cases hlt : j < n
    · have hk : (j : Int) < (n : Int) := by omega
      have hk2 : ¬ (n : Int) ≤ (j : Int) := by omega
      have hje : j < es.length := by have := HN.out; omega
      obtain ⟨o, rfl, hb⟩ := (HE.out.more (o2 HO.out HW.out)).of j hje
      have HB := hide hb
      have HV1 := hide (HV.out.more HW.out)
      have hq := eqE_run e es[j]
      by_cases hc : e = es[j]
      · have HX : Hid (idxE es e = (j : Int)) := by
          unfold Hid idxE
          rw [hc, if_pos (List.getElem_mem _), plE_at HR.out j hje]
        have hd : decide (e = es[j]) = true := decide_eq_true hc
        rw [hd] at hq
        obtain ⟨f, hf⟩ : ∃ f, es[j] = f := ⟨_, rfl⟩
        rw [hf] at HB hq
        clear hf hb hc hd
        go_upto_region 4 with fail
        -- {r4a
        refine wp_region_noPanic ?_
        refine wp_region_held_drew (S := fun W => Only (fun _ => False) wr W) (by kernel_rfl) (Only.drew _ _) (fun hHeld => ?_)
        refine wpAnyH_take (i := 0) (oi := { dst := some 11, op := Op.load 41 (Operand.tmp 3), type := 41, pos := "slices.go:98", after := #[], guard := none }) (v := .agg #[.string e.key, .int .i64 e.page, .int .i64 e.slot]) rfl (by kernel_rfl) (by kernel_rfl) (by kernel_rfl) (fun _ _ _ h => h) (yieldsIf_load_ev (by rfl) _ rfl rfl (fun W hW => HV1.out.more hW)) (by assumption) ?_
        simp only [Act.put, List.setIfInBounds_toArray, List.set_cons_zero, List.set_cons_succ]
        refine wpAnyH_take (i := 1) (oi := { dst := some 12, op := Op.move (Operand.tmp 0), type := 47, pos := "slices.go:98", after := #[], guard := none }) (v := .slice (some ⟨B, o, none⟩) n C) rfl (by kernel_rfl) (by kernel_rfl) (by kernel_rfl) (fun _ _ _ h => h) (Or.inl ⟨by rfl, fun w' hSw => by clear hSw; go_simp⟩) (by assumption) ?_
        simp only [Act.put, List.setIfInBounds_toArray, List.set_cons_zero, List.set_cons_succ]
        refine wpAnyH_take (i := 2) (oi := { dst := some 13, op := Op.move (Operand.tmp 5), type := 3, pos := "slices.go:98", after := #[], guard := none }) (v := .int .i64 (j : Int)) rfl (by kernel_rfl) (by kernel_rfl) (by kernel_rfl) (fun _ _ _ h => h) (Or.inl ⟨by rfl, fun w' hSw => by clear hSw; go_simp⟩) (by assumption) ?_
        simp only [Act.put, List.setIfInBounds_toArray, List.set_cons_zero, List.set_cons_succ]
        refine wpAnyH_take (i := 3) (oi := { dst := some 14, op := Op.indexAddr 47 (Operand.tmp 12) (Operand.tmp 13), type := 0, pos := "slices.go:98", after := #[{ on := 1, ground := Ground.data }, { on := 2, ground := Ground.data }], guard := none }) (v := .pointer (some ⟨B, o + j * 3, none⟩)) rfl (by kernel_rfl) (by kernel_rfl) (by kernel_rfl) (fun _ _ _ h => h) (Or.inl ⟨by rfl, fun w' hSw => by clear hSw; go_simp⟩) (by assumption) ?_
        simp only [Act.put, List.setIfInBounds_toArray, List.set_cons_zero, List.set_cons_succ]
        refine wpAnyH_take (i := 4) (oi := { dst := some 15, op := Op.load 41 (Operand.tmp 14), type := 41, pos := "slices.go:98", after := #[{ on := 3, ground := Ground.data }], guard := none }) (v := .agg #[.string f.key, .int .i64 f.page, .int .i64 f.slot]) rfl (by kernel_rfl) (by kernel_rfl) (by kernel_rfl) (fun _ _ _ h => h) (yieldsIf_load_eb (by rfl) _ rfl rfl (fun W hW => HB.out.more hW)) (by assumption) ?_
        simp only [Act.put, List.setIfInBounds_toArray, List.set_cons_zero, List.set_cons_succ]
        refine wpAnyH_take (i := 5) (oi := { dst := some 16, op := Op.binOp BinOp.eql 41 (Operand.tmp 11) (Operand.tmp 15) 41, type := 4, pos := "slices.go:98", after := #[{ on := 0, ground := Ground.data }, { on := 4, ground := Ground.data }], guard := none }) (v := .bool true) rfl (by kernel_rfl) (by kernel_rfl) (by kernel_rfl) (fun _ _ _ h => h) (Or.inl ⟨by rfl, fun w' hSw => by clear hSw; go_simp⟩) (by assumption) ?_
        simp only [Act.put, List.setIfInBounds_toArray, List.set_cons_zero, List.set_cons_succ]
        refine wpAnyH_done (by kernel_rfl) ?_ _
        refine NoPanic.normal ?_
        -- r4a}
        go_wp2_with fail
        go_ret
        exact ⟨by rw [HX.out]; rfl, o2 HO.out (o2 HW.out (Only.drew _ _))⟩
      · have HI2 : Hid (∀ z ∈ es.take (j + 1), z ≠ e) := by
          intro z hz
          rw [List.take_succ_eq_append_getElem hje] at hz
          rcases List.mem_append.1 hz with hz | hz
          · exact HI.out z hz
          · have : z = es[j] := by simpa using hz
            rw [this]
            exact fun x => hc x.symm
        have hd : decide (e = es[j]) = false := decide_eq_false hc
        rw [hd] at hq
        obtain ⟨f, hf⟩ : ∃ f, es[j] = f := ⟨_, rfl⟩
        rw [hf] at HB hq
        clear hf hb hc hd
        go_upto_region 4 with fail
        -- {r4b
        refine wp_region_noPanic ?_
        refine wp_region_held_drew (S := fun W => Only (fun _ => False) wr W) (by kernel_rfl) (Only.drew _ _) (fun hHeld => ?_)
        refine wpAnyH_take (i := 0) (oi := { dst := some 11, op := Op.load 41 (Operand.tmp 3), type := 41, pos := "slices.go:98", after := #[], guard := none }) (v := .agg #[.string e.key, .int .i64 e.page, .int .i64 e.slot]) rfl (by kernel_rfl) (by kernel_rfl) (by kernel_rfl) (fun _ _ _ h => h) (yieldsIf_load_ev (by rfl) _ rfl rfl (fun W hW => HV1.out.more hW)) (by assumption) ?_
        simp only [Act.put, List.setIfInBounds_toArray, List.set_cons_zero, List.set_cons_succ]
        refine wpAnyH_take (i := 1) (oi := { dst := some 12, op := Op.move (Operand.tmp 0), type := 47, pos := "slices.go:98", after := #[], guard := none }) (v := .slice (some ⟨B, o, none⟩) n C) rfl (by kernel_rfl) (by kernel_rfl) (by kernel_rfl) (fun _ _ _ h => h) (Or.inl ⟨by rfl, fun w' hSw => by clear hSw; go_simp⟩) (by assumption) ?_
        simp only [Act.put, List.setIfInBounds_toArray, List.set_cons_zero, List.set_cons_succ]
        refine wpAnyH_take (i := 2) (oi := { dst := some 13, op := Op.move (Operand.tmp 5), type := 3, pos := "slices.go:98", after := #[], guard := none }) (v := .int .i64 (j : Int)) rfl (by kernel_rfl) (by kernel_rfl) (by kernel_rfl) (fun _ _ _ h => h) (Or.inl ⟨by rfl, fun w' hSw => by clear hSw; go_simp⟩) (by assumption) ?_
        simp only [Act.put, List.setIfInBounds_toArray, List.set_cons_zero, List.set_cons_succ]
        refine wpAnyH_take (i := 3) (oi := { dst := some 14, op := Op.indexAddr 47 (Operand.tmp 12) (Operand.tmp 13), type := 0, pos := "slices.go:98", after := #[{ on := 1, ground := Ground.data }, { on := 2, ground := Ground.data }], guard := none }) (v := .pointer (some ⟨B, o + j * 3, none⟩)) rfl (by kernel_rfl) (by kernel_rfl) (by kernel_rfl) (fun _ _ _ h => h) (Or.inl ⟨by rfl, fun w' hSw => by clear hSw; go_simp⟩) (by assumption) ?_
        simp only [Act.put, List.setIfInBounds_toArray, List.set_cons_zero, List.set_cons_succ]
        refine wpAnyH_take (i := 4) (oi := { dst := some 15, op := Op.load 41 (Operand.tmp 14), type := 41, pos := "slices.go:98", after := #[{ on := 3, ground := Ground.data }], guard := none }) (v := .agg #[.string f.key, .int .i64 f.page, .int .i64 f.slot]) rfl (by kernel_rfl) (by kernel_rfl) (by kernel_rfl) (fun _ _ _ h => h) (yieldsIf_load_eb (by rfl) _ rfl rfl (fun W hW => HB.out.more hW)) (by assumption) ?_
        simp only [Act.put, List.setIfInBounds_toArray, List.set_cons_zero, List.set_cons_succ]
        refine wpAnyH_take (i := 5) (oi := { dst := some 16, op := Op.binOp BinOp.eql 41 (Operand.tmp 11) (Operand.tmp 15) 41, type := 4, pos := "slices.go:98", after := #[{ on := 0, ground := Ground.data }, { on := 4, ground := Ground.data }], guard := none }) (v := .bool false) rfl (by kernel_rfl) (by kernel_rfl) (by kernel_rfl) (fun _ _ _ h => h) (Or.inl ⟨by rfl, fun w' hSw => by clear hSw; go_simp⟩) (by assumption) ?_
        simp only [Act.put, List.setIfInBounds_toArray, List.set_cons_zero, List.set_cons_succ]
        refine wpAnyH_done (by kernel_rfl) ?_ _
        refine NoPanic.normal ?_
        -- r4b}
        go_wp2_with fail
        go_roundw
        case rel => exact ⟨j + 1, by go_num, by omega, HI2, hide (o2 HW.out (Only.drew _ _))⟩
        case measure => simp [intOf]; omega
    · have hk : ¬ (j : Int) < (n : Int) := by omega
      have HX : Hid (idxE es e = -1) := by
        unfold Hid idxE
        rw [if_neg]
        intro hm
        have := HN.out
        exact HI.out e (by rw [List.take_of_length_le (by omega)]; exact hm) rfl
      go_wp2_with fail
      go_ret
      exact ⟨by rw [HX.out]; rfl, o2 HO.out HW.out⟩
end Go.Proofs.YthjjkhacniebiaaGreat
