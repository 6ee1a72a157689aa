/- The law's entries: whether two lists are the same; a leaf split, told as two leaves. -/
import Derived.Test.YthhlmhghiknnkaaNLawR
import Derived.Test.YthhlmhghiknnkaaNFew
namespace Go.Proofs.Ythhlmhghiknnkaa
open Go.RowKit

set_option maxHeartbeats 3200000 in
theorem entries_same (w : World) (B1 B2 n C1 C2 : Nat) (A1 A2 : Option Addr) (es : List En) (h1 : Els w B1 A1 es) (h2 : Els w B2 A2 es) (hn : es.length = n) (hl : n ≤ 4194304) :
    Calls Try.prog 26 #[.slice A1 n C1, .slice A2 n C2] w fun x w' => x = .returned (.bool true) ∧ Only (fun _ => False) w w' := by
  have H1 := hide h1
  have H2 := hide h2
  have HN := hide hn
  clear h1 h2 hn
  go_enter Try.func26, Try.ntmps26
  go_upto_region 4 with fail
  go_loopw [5] (fun i wr => ∃ (j : Nat), j ≤ n ∧ i = .int .i64 (j : Int) ∧ Hid (Only (fun _ => False) w wr)) (fun i _ => n - (intOf i).toNat)
  case atStart => exact ⟨0, Nat.zero_le _, rfl, hide (Only.refl _ _)⟩
  case round =>
    obtain ⟨j, hj, rfl, HW⟩ := hrel
    by_cases hlt : j < n
    · have hlk : (j : Int) < (n : Int) := by omega
      have hlk2 : ¬ (n : Int) ≤ (j : Int) := by omega
      have hje : j < es.length := by have := HN.out; omega
      obtain ⟨o1, rfl, hb1⟩ := (H1.out.more HW.out).of j hje
      obtain ⟨o2, rfl, hb2⟩ := (H2.out.more HW.out).of j hje
      have hq := neE_run es[j] es[j]
      rw [decide_eq_true rfl] at hq
      obtain ⟨g, hg⟩ : ∃ g, es[j] = g := ⟨_, rfl⟩
      rw [hg] at hb1 hb2 hq
      have HB1 := hide hb1
      have HB2 := hide hb2
      clear hb1 hb2 hg
      go_upto_region 6 with fail
      -- {r6
      refine wp_region_noPanic ?_
      refine wp_region_held_drew (S := fun W => Only (fun _ => False) wr W) (by kernel_rfl) (Only.drew _ _) (fun hHeld => ?_)
      refine wpAnyH_take (i := 0) (oi := { dst := some 17, op := Op.move (Operand.tmp 0), type := 35, pos := "law.go:30", after := #[], guard := none }) (v := .slice (some ⟨B1, o1, none⟩) n C1) rfl (by kernel_rfl) (by kernel_rfl) (by kernel_rfl) (fun _ _ _ h => h) (Or.inl ⟨by rfl, fun w' hSw => by clear hSw; go_simp⟩) (by assumption) ?_
      simp only [Act.put, List.setIfInBounds_toArray, List.set_cons_zero, List.set_cons_succ]
      refine wpAnyH_take (i := 1) (oi := { dst := some 18, op := Op.move (Operand.tmp 5), type := 3, pos := "law.go:30", after := #[], guard := none }) (v := .int .i64 (j : Int)) rfl (by kernel_rfl) (by kernel_rfl) (by kernel_rfl) (fun _ _ _ h => h) (Or.inl ⟨by rfl, fun w' hSw => by clear hSw; go_simp⟩) (by assumption) ?_
      simp only [Act.put, List.setIfInBounds_toArray, List.set_cons_zero, List.set_cons_succ]
      refine wpAnyH_take (i := 4) (oi := { dst := some 21, op := Op.move (Operand.tmp 1), type := 35, pos := "law.go:30", after := #[], guard := none }) (v := .slice (some ⟨B2, o2, none⟩) n C2) rfl (by kernel_rfl) (by kernel_rfl) (by kernel_rfl) (fun _ _ _ h => h) (Or.inl ⟨by rfl, fun w' hSw => by clear hSw; go_simp⟩) (by assumption) ?_
      simp only [Act.put, List.setIfInBounds_toArray, List.set_cons_zero, List.set_cons_succ]
      refine wpAnyH_take (i := 5) (oi := { dst := some 22, op := Op.move (Operand.tmp 5), type := 3, pos := "law.go:30", after := #[], guard := none }) (v := .int .i64 (j : Int)) rfl (by kernel_rfl) (by kernel_rfl) (by kernel_rfl) (fun _ _ _ h => h) (Or.inl ⟨by rfl, fun w' hSw => by clear hSw; go_simp⟩) (by assumption) ?_
      simp only [Act.put, List.setIfInBounds_toArray, List.set_cons_zero, List.set_cons_succ]
      refine wpAnyH_take (i := 2) (oi := { dst := some 19, op := Op.indexAddr 35 (Operand.tmp 17) (Operand.tmp 18), type := 0, pos := "law.go:30", after := #[{ on := 0, ground := Ground.data }, { on := 1, ground := Ground.data }], guard := none }) (v := .pointer (some ⟨B1, o1 + j * 3, none⟩)) rfl (by kernel_rfl) (by kernel_rfl) (by kernel_rfl) (fun _ _ _ h => h) (Or.inl ⟨by rfl, fun w' hSw => by clear hSw; go_simp⟩) (by assumption) ?_
      simp only [Act.put, List.setIfInBounds_toArray, List.set_cons_zero, List.set_cons_succ]
      refine wpAnyH_take (i := 6) (oi := { dst := some 23, op := Op.indexAddr 35 (Operand.tmp 21) (Operand.tmp 22), type := 0, pos := "law.go:30", after := #[{ on := 4, ground := Ground.data }, { on := 5, ground := Ground.data }], guard := none }) (v := .pointer (some ⟨B2, o2 + j * 3, none⟩)) rfl (by kernel_rfl) (by kernel_rfl) (by kernel_rfl) (fun _ _ _ h => h) (Or.inl ⟨by rfl, fun w' hSw => by clear hSw; go_simp⟩) (by assumption) ?_
      simp only [Act.put, List.setIfInBounds_toArray, List.set_cons_zero, List.set_cons_succ]
      refine wpAnyH_take (i := 3) (oi := { dst := some 20, op := Op.load 23 (Operand.tmp 19), type := 23, pos := "law.go:30", after := #[{ on := 2, ground := Ground.data }], guard := none }) (v := .agg #[.string g.key, .int .i64 g.page, .int .i64 g.slot]) rfl (by kernel_rfl) (by kernel_rfl) (by kernel_rfl) (fun _ _ _ h => h) (yieldsIf_load_eb (by rfl) _ rfl rfl (fun W hW => HB1.out.more hW)) (by assumption) ?_
      simp only [Act.put, List.setIfInBounds_toArray, List.set_cons_zero, List.set_cons_succ]
      refine wpAnyH_take (i := 7) (oi := { dst := some 24, op := Op.load 23 (Operand.tmp 23), type := 23, pos := "law.go:30", after := #[{ on := 6, ground := Ground.data }], guard := none }) (v := .agg #[.string g.key, .int .i64 g.page, .int .i64 g.slot]) rfl (by kernel_rfl) (by kernel_rfl) (by kernel_rfl) (fun _ _ _ h => h) (yieldsIf_load_eb (by rfl) _ rfl rfl (fun W hW => HB2.out.more hW)) (by assumption) ?_
      simp only [Act.put, List.setIfInBounds_toArray, List.set_cons_zero, List.set_cons_succ]
      refine wpAnyH_take (i := 8) (oi := { dst := some 25, op := Op.binOp BinOp.neq 23 (Operand.tmp 20) (Operand.tmp 24) 23, type := 4, pos := "law.go:30", after := #[{ on := 3, ground := Ground.data }, { on := 7, ground := Ground.data }], guard := none }) (v := .bool false) rfl (by kernel_rfl) (by kernel_rfl) (by kernel_rfl) (fun _ _ _ h => h) (Or.inl ⟨by rfl, fun w' hSw => by clear hSw; go_simp⟩) (by assumption) ?_
      simp only [Act.put, List.setIfInBounds_toArray, List.set_cons_zero, List.set_cons_succ]
      refine wpAnyH_done (by kernel_rfl) ?_ _
      refine NoPanic.normal ?_
      -- r6}
      clear hq
      go_wp2_with fail
      go_roundw
      case rel => exact ⟨j + 1, by omega, by go_num, hide (HW.out.trans (Only.drew (fun _ => False) _) (fun _ _ h => h))⟩
      case measure => simp [intOf]; omega
    · have hlk : ¬ (j : Int) < (n : Int) := by omega
      go_wp2_with fail
      go_ret
      exact ⟨rfl, HW.out⟩
/-- A leaf split: both halves are leaves. -/
def SpR (w w' : World) (x : Ending) (l : List ByteArray) (es : List En) : Prop :=
  ∃ (P B1 : Nat) (ao1 : Option Addr) (cp1 B2 : Nat) (ao2 : Option Addr) (cp2 : Nat) (hP : P + 1 < es.length), x = .returned (.tuple #[.agg #[.int .i64 0, .int .i64 3, .int .i64 0, .int .i64 9, .string es[P].enc, .slice ao1 (l.take (P + 1)).length cp1], .agg #[.int .i64 0, .int .i64 3, .int .i64 0, .int .i64 0, .string ⟨#[]⟩, .slice ao2 (l.drop (P + 1)).length cp2], .agg #[.string es[P].key, .int .i64 es[P].page, .int .i64 es[P].slot], .int .i64 0]) ∧
    Lp w' 9 es[P].enc es[P] B1 ao1 (l.take (P + 1)) (es.take (P + 1)) ∧ Lp w' 0 ⟨#[]⟩ noE B2 ao2 (l.drop (P + 1)) (es.drop (P + 1)) ∧ es[P].ok = true ∧ Only (fun _ => False) w w'
theorem LfIs.left {l : List ByteArray} {es : List En} (h : LfIs noE l es) (P : Nat) (hP : P < es.length) : LfIs es[P] (l.take (P + 1)) (es.take (P + 1)) := by
  refine ⟨by rw [h.items, List.map_take], h.rise.sublist (List.take_sublist _ _), fun e he => h.ok e (List.mem_of_mem_take he), fun e he => ?_⟩
  refine byd_no.2 (.inr ?_)
  obtain ⟨k, hk, rfl⟩ := List.mem_iff_getElem.1 he
  rw [List.length_take] at hk
  rw [List.getElem_take]
  by_cases e1 : k = P
  · subst e1; exact En.lt_irrefl _
  · exact fun x => En.lt_asymm x (List.pairwise_iff_getElem.1 h.rise k P (by omega) hP (by omega))
theorem LfIs.right {l : List ByteArray} {es : List En} (h : LfIs noE l es) (m : Nat) : LfIs noE (l.drop m) (es.drop m) :=
  ⟨by rw [h.items, List.map_drop], h.rise.sublist (List.drop_sublist _ _), fun e he => h.ok e (List.mem_of_mem_drop he), fun e _ => byd_noE e⟩
theorem split_leaf (w : World) (B cp : Nat) (ao : Option Addr) (l : List ByteArray) (es : List En) (hP : Lp w 0 ⟨#[]⟩ noE B ao l es) (hF : Fit ao l.length cp) (hn : 2 ≤ l.length) :
    Calls Try.prog 25 #[.agg #[.int .i64 0, .int .i64 3, .int .i64 0, .int .i64 0, .string ⟨#[]⟩, .slice ao l.length cp], .int .i64 9] w fun x w' => SpR w w' x l es := by
  have hl := hP.lf.len
  refine (split_ok w 0 0 ⟨#[]⟩ noE 9 B cp ao l es hP hF (by decide) hn).mono ?_
  rintro x w' ⟨B1, ao1, cp1, B2, ao2, cp2, rfl, hs1, hs2, ho⟩
  obtain ⟨P, hPm⟩ : ∃ P, (l.length + 1) / 2 = P + 1 := ⟨(l.length + 1) / 2 - 1, by omega⟩
  have hPl : P + 1 < es.length := by omega
  have hb : es.getD (P + 1 - 1) noE = es[P] := by
    rw [Nat.add_sub_cancel, List.getD_eq_getElem?_getD, List.getElem?_eq_getElem (by omega)]
    rfl
  rw [hPm] at hs1 hs2 ⊢
  rw [hb]
  have hok := hP.lf.ok es[P] (List.getElem_mem _)
  have e1 : (l.take (P + 1)).length = P + 1 := by rw [List.length_take]; omega
  have e2 : (l.drop (P + 1)).length = l.length - (P + 1) := List.length_drop
  refine ⟨P, B1, ao1, cp1, B2, ao2, cp2, hPl, by rw [e1, e2]; rfl, ⟨hs1, by decide, .inr ⟨rfl, hok⟩, hP.lf.left P (by omega), ?_⟩, ⟨hs2, by decide, .inl ⟨rfl, rfl⟩, hP.lf.right (P + 1), ?_⟩, hok, ho⟩
  · have := hP.few; omega
  · have := hP.few; omega
end Go.Proofs.Ythhlmhghiknnkaa
