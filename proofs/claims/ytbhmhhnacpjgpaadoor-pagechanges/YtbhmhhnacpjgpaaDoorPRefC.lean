/- What the document's With, Put and Out do. -/
import Derived.Test.YtbhmhhnacpjgpaaDoorPPutC
import Derived.Test.YtbhmhhnacpjgpaaDoorPRefE
namespace Go.Proofs.YtbhmhhnacpjgpaaDoor
open Go.RowKit

theorem only_any {S : Nat → Prop} {a b : World} (h : Only (fun _ => False) a b) : Only S a b := h.mono (fun _ _ h => h.elim)
/-- Refused as too long, or the page. -/
noncomputable def chg (c : Prop) (p : Pg) : Pg × Int := open Classical in if c then (.none, 3) else (p, 0)
theorem Or3.res {w w' : World} {e : Ending} {c : Prop} {p : Pg} (h : Or3 w w' e c p) : Res w w' e (chg c p).1 (chg c p).2 := by
  unfold chg
  by_cases hc : c
  · rw [if_pos hc]; exact h.1 hc
  · rw [if_neg hc]; exact h.2 hc
theorem res_from {w W w' : World} {e : Ending} {p : Pg} {c : Int} (ho : Only (fun _ => False) w W) (h : Res W w' e p c) : Res w w' e p c := by
  obtain ⟨B, ao, cp, he, hs, hf, h1, hn⟩ := h
  exact ⟨B, ao, cp, he, hs, hf, o2 ho h1, fun h0 => Nat.le_trans ho.size (hn h0)⟩
/-- The answer of a call, laid into the result's box. -/
theorem res_laid {w W x : World} {p : Pg} {c : Int} {B cp : Nat} {ao : Option Addr} (ho : Only (fun _ => False) w W) (hb : w.heap.size + 1 < W.heap.size) (hS : Strs x B ao p.items) (hF : Fit ao p.items.length cp) (h1 : Only (fun _ => False) W x) (hn : 0 < p.items.length → W.heap.size ≤ B) (v0 v1 v2 v3 v4 v5 : Value) :
    Res w ((((((x.setCell ⟨w.heap.size + 1, 0, none⟩ v0).setCell ⟨w.heap.size + 1, 1, none⟩ v1).setCell ⟨w.heap.size + 1, 2, none⟩ v2).setCell ⟨w.heap.size + 1, 3, none⟩ v3).setCell ⟨w.heap.size + 1, 4, none⟩ v4).setCell ⟨w.heap.size + 1, 5, none⟩ v5) (.returned (.tuple #[.agg #[.int .i64 p.lsn, .int .i64 p.kind, .int .i64 p.level, .int .i64 p.right, .string p.high, .slice ao p.items.length cp], .int .i64 c])) p c :=
  ⟨B, ao, cp, rfl, hS.kept (Only.six _ _ _ _ _ _ _ _) (fun h0 e => by have := hn h0; omega), hF, (o2 ho h1).trans (Only.six _ _ _ _ _ _ _ _) (fun i hi e => by omega), fun h0 => by have := hn h0; have := ho.size; omega⟩

set_option maxRecDepth 100000 in
set_option maxHeartbeats 3200000 in
theorem ywith_some (w : World) (a k v r : Int) (h : ByteArray) (B b o cp : Nat) (l : List ByteArray) (i : Nat) (it : ByteArray) (hit : it.size ≤ 140737488355328) (hS : Strs w B (some ⟨b, o, none⟩) l) (hF : Fit (some ⟨b, o, none⟩) l.length cp) (hh : h.size ≤ 140737488355328) (hi : i < l.length) (hlm : l.length ≤ 8796093021952) :
    Calls Tryd.prog 18 #[.agg #[.int .i64 a, .int .i64 k, .int .i64 v, .int .i64 r, .string h, .slice (some ⟨b, o, none⟩) l.length cp], .int .i64 (i : Int), .string it] w fun e w' =>
      Res w w' e (chg (true = true ∧ (255 < (l.take i ++ [it] ++ l.drop (i + 1)).length ∨ 512 < 20 + h.size + isz (l.take i ++ [it] ++ l.drop (i + 1)))) ⟨a, k, v, r, h, l.take i ++ [it] ++ l.drop (i + 1)⟩).1 (chg (true = true ∧ (255 < (l.take i ++ [it] ++ l.drop (i + 1)).length ∨ 512 < 20 + h.size + isz (l.take i ++ [it] ++ l.drop (i + 1)))) ⟨a, k, v, r, h, l.take i ++ [it] ++ l.drop (i + 1)⟩).2 := by
  have hcp := hF.le
  have hbig := hF.big
  obtain ⟨m, hm⟩ : ∃ m, i + 1 = m := ⟨_, rfl⟩
  obtain ⟨A2, hA2⟩ : ∃ A2, (if cp = m then some (⟨b, o, none⟩ : Addr) else some ⟨b, o + m, none⟩) = A2 := ⟨_, rfl⟩
  have hA : m < l.length → A2 = some ⟨b, o + m, none⟩ := fun hk => by rw [← hA2, if_neg (by omega)]
  have hA0 : A2 ≠ none := by rw [← hA2]; split <;> simp
  have HB0 := hide (boxes_only w a k v r h (.slice (some ⟨b, o, none⟩) l.length cp))
  have HB1 := hide (boxes_one w a k v r h (.slice (some ⟨b, o, none⟩) l.length cp))
  have HB2 := hide (boxes_two w a k v r h (.slice (some ⟨b, o, none⟩) l.length cp))
  have HBZ := hide (boxes_size w a k v r h (.slice (some ⟨b, o, none⟩) l.length cp))
  obtain ⟨W0, hW0⟩ : ∃ W0, boxes w a k v r h (.slice (some ⟨b, o, none⟩) l.length cp) = W0 := ⟨_, rfl⟩
  rw [hW0] at HB0 HB1 HB2 HBZ
  have HW0 := hide hW0
  clear hW0
  have HS := hide (hS.more HB0.out)
  have hW1 : Only (fun _ => False) W0 (W0.drew.alloc (.cells #[.string it] 9)) := o2 (Only.drew _ _) (onlyA _ _)
  have HC := hide (changed_any (W0.drew.alloc (.cells #[.string it] 9)) a k v r h (.slice (some ⟨b, o, none⟩) l.length cp) (some ⟨b, o, none⟩) (some ⟨W0.heap.size, 0, none⟩) A2 B W0.heap.size B cp 1 (cp - m) i 1 (l.length - m) (l.take i) [it] (l.drop m) true (by simp; omega) (by rfl) (by simp)
    ((HS.out.more hW1).take i) (Strs.one W0.drew it hit) ((HS.out.more hW1).drop m _ hA) ⟨fun h => (by cases h), by omega, hbig⟩ ⟨fun h => (by cases h), by omega, by unfold maxLen; omega⟩ ⟨fun h => absurd h hA0, by omega, by omega⟩ hh (by omega))
  have HW1 := hide hW1
  have HBS : Hid (w.heap.size + 1 < (W0.drew.alloc (.cells #[.string it] 9)).heap.size) := by unfold Hid; have h1 := hW1.size; have h2 := HBZ.out; omega
  obtain ⟨P, hP⟩ : ∃ P, chg (true = true ∧ (255 < (l.take i ++ [it] ++ l.drop (i + 1)).length ∨ 512 < 20 + h.size + isz (l.take i ++ [it] ++ l.drop (i + 1)))) ⟨a, k, v, r, h, l.take i ++ [it] ++ l.drop (i + 1)⟩ = P := ⟨_, rfl⟩
  rw [hP]
  rw [hm] at hP
  have HP := hide hP
  unfold maxLen at hbig
  have hi0 : (0 : Int) ≤ (i : Int) := by omega
  have hi1 : (i : Int) < (l.length : Int) := by omega
  have hi2 : (0 : Int) ≤ (m : Int) := by omega
  have hi5 : (i : Int) + 1 = (m : Int) := by omega
  have hi8 : IntKind.i64.wrap (m : Int) = (m : Int) := wraps_i64 _ (by omega) (by omega)
  have hi6 : (i : Int) ≤ (cp : Int) := by omega
  have hi9 : (i : Int) ≤ (l.length : Int) := by omega
  have hi7 : (l.length : Int) ≤ (cp : Int) := by omega
  have hi3 : (m : Int) ≤ (l.length : Int) := by omega
  have hi4 : (m : Int) ≤ (cp : Int) := by omega
  clear hm hA hA0 hP hS hF hW1
  obtain ⟨p0, p1, p2, p3, p4, p5, g0, g1, g2, g3, g4, g5, gl⟩ := HB1.out
  go_enter Tryd.func18, Tryd.ntmps18
  go_upto_region 1 with fail
  first | rw [show (w.alloc (.cells #[.int .i64 a, .int .i64 k, .int .i64 v, .int .i64 r, .string h, .slice (some ⟨b, o, none⟩) l.length cp] 24)).alloc (.cells #[.int .i64 0, .int .i64 0, .int .i64 0, .int .i64 0, .string ⟨#[]⟩, .slice none 0 0] 24) = W0 from HW0.out]
  go_upto_region 3 with fail
  refine wp_region_noPanic ?_
  refine wp_region_held_drew (S := fun W => Only (fun k => k = w.heap.size + 1) W0 W) (by kernel_rfl) (Only.drew _ _) (fun hHeld => ?_)
  refine wpAnyH_take (i := 0) (oi := { dst := some 18, op := Op.load 24 (Operand.tmp 3), type := 24, pos := "ref.go:90", after := #[], guard := none }) (v := .agg #[.int .i64 a, .int .i64 k, .int .i64 v, .int .i64 r, .string h, .slice (some ⟨b, o, none⟩) l.length cp]) rfl (by kernel_rfl) (by kernel_rfl) (by kernel_rfl) (fun _ _ _ h => h) (yieldsIf_load_page (by rfl) _ rfl _ rfl (fun W hW => HB1.out.kept hW (by omega))) (by assumption) ?_
  simp only [Act.put, List.setIfInBounds_toArray, List.set_cons_zero, List.set_cons_succ]
  refine wpAnyH_take (i := 1) (oi := { dst := some 19, op := Op.fieldAddr 24 (Operand.tmp 3) 5, type := 0, pos := "ref.go:90", after := #[], guard := none }) (v := .pointer (some ⟨w.heap.size, 5, none⟩)) rfl (by kernel_rfl) (by kernel_rfl) (by kernel_rfl) (fun _ _ _ h => h) (Or.inl ⟨by rfl, fun w' hSw => by clear hSw; go_simp⟩) (by assumption) ?_
  simp only [Act.put, List.setIfInBounds_toArray, List.set_cons_zero, List.set_cons_succ]
  refine wpAnyH_take (i := 3) (oi := { dst := some 21, op := Op.move (Operand.tmp 1), type := 3, pos := "ref.go:90", after := #[], guard := none }) (v := .int .i64 (i : Int)) rfl (by kernel_rfl) (by kernel_rfl) (by kernel_rfl) (fun _ _ _ h => h) (Or.inl ⟨by rfl, fun w' hSw => by clear hSw; go_simp⟩) (by assumption) ?_
  simp only [Act.put, List.setIfInBounds_toArray, List.set_cons_zero, List.set_cons_succ]
  refine wpAnyH_take (i := 5) (oi := { dst := some 23, op := Op.move (Operand.tmp 2), type := 9, pos := "ref.go:90", after := #[], guard := none }) (v := .string it) rfl (by kernel_rfl) (by kernel_rfl) (by kernel_rfl) (fun _ _ _ h => h) (Or.inl ⟨by rfl, fun w' hSw => by clear hSw; go_simp⟩) (by assumption) ?_
  simp only [Act.put, List.setIfInBounds_toArray, List.set_cons_zero, List.set_cons_succ]
  refine wpAnyH_take (i := 7) (oi := { dst := some 25, op := Op.fieldAddr 24 (Operand.tmp 3) 5, type := 0, pos := "ref.go:90", after := #[], guard := none }) (v := .pointer (some ⟨w.heap.size, 5, none⟩)) rfl (by kernel_rfl) (by kernel_rfl) (by kernel_rfl) (fun _ _ _ h => h) (Or.inl ⟨by rfl, fun w' hSw => by clear hSw; go_simp⟩) (by assumption) ?_
  simp only [Act.put, List.setIfInBounds_toArray, List.set_cons_zero, List.set_cons_succ]
  refine wpAnyH_take (i := 9) (oi := { dst := some 27, op := Op.move (Operand.tmp 1), type := 3, pos := "ref.go:90", after := #[], guard := none }) (v := .int .i64 (i : Int)) rfl (by kernel_rfl) (by kernel_rfl) (by kernel_rfl) (fun _ _ _ h => h) (Or.inl ⟨by rfl, fun w' hSw => by clear hSw; go_simp⟩) (by assumption) ?_
  simp only [Act.put, List.setIfInBounds_toArray, List.set_cons_zero, List.set_cons_succ]
  refine wpAnyH_take (i := 2) (oi := { dst := some 20, op := Op.load 22 (Operand.tmp 19), type := 22, pos := "ref.go:90", after := #[{ on := 1, ground := Ground.data }], guard := none }) (v := .slice (some ⟨b, o, none⟩) l.length cp) rfl (by kernel_rfl) (by kernel_rfl) (by kernel_rfl) (fun _ _ _ h => h) (yieldsIf_load_cell (by rfl) 22 _ rfl _ rfl (fun W hW => (HB1.out.kept hW (by omega)).c5) (fun W hc => ld_strings hc)) (by assumption) ?_
  simp only [Act.put, List.setIfInBounds_toArray, List.set_cons_zero, List.set_cons_succ]
  refine wpAnyH_take (i := 8) (oi := { dst := some 26, op := Op.load 22 (Operand.tmp 25), type := 22, pos := "ref.go:90", after := #[{ on := 7, ground := Ground.data }], guard := none }) (v := .slice (some ⟨b, o, none⟩) l.length cp) rfl (by kernel_rfl) (by kernel_rfl) (by kernel_rfl) (fun _ _ _ h => h) (yieldsIf_load_cell (by rfl) 22 _ rfl _ rfl (fun W hW => (HB1.out.kept hW (by omega)).c5) (fun W hc => ld_strings hc)) (by assumption) ?_
  simp only [Act.put, List.setIfInBounds_toArray, List.set_cons_zero, List.set_cons_succ]
  refine wpAnyH_take (i := 10) (oi := { dst := some 28, op := Op.binOp BinOp.add 3 (Operand.tmp 27) (Operand.const (Value.int IntKind.i64 1)) 3, type := 3, pos := "ref.go:90", after := #[{ on := 9, ground := Ground.data }], guard := none }) (v := .int .i64 (m : Int)) rfl (by kernel_rfl) (by kernel_rfl) (by kernel_rfl) (fun _ _ _ h => h) (Or.inl ⟨by rfl, fun w' hSw => by clear hSw; go_simp⟩) (by assumption) ?_
  simp only [Act.put, List.setIfInBounds_toArray, List.set_cons_zero, List.set_cons_succ]
  refine wpAnyH_take (i := 4) (oi := { dst := some 22, op := Op.slice 22 (Operand.tmp 20) none (some (Operand.tmp 21)) none, type := 22, pos := "ref.go:90", after := #[{ on := 2, ground := Ground.data }, { on := 3, ground := Ground.data }], guard := none }) (v := .slice (some ⟨b, o, none⟩) i cp) rfl (by kernel_rfl) (by kernel_rfl) (by kernel_rfl) (fun _ _ _ h => h) (Or.inl ⟨by rfl, fun w' hSw => by clear hSw; go_simp⟩) (by assumption) ?_
  simp only [Act.put, List.setIfInBounds_toArray, List.set_cons_zero, List.set_cons_succ]
  refine wpAnyH_take (i := 11) (oi := { dst := some 29, op := Op.slice 22 (Operand.tmp 26) (some (Operand.tmp 28)) none none, type := 22, pos := "ref.go:90", after := #[{ on := 8, ground := Ground.data }, { on := 10, ground := Ground.data }], guard := none }) (v := .slice A2 (l.length - m) (cp - m)) rfl (by kernel_rfl) (by kernel_rfl) (by kernel_rfl) (fun _ _ _ h => h) (Or.inl ⟨by rfl, fun w' hSw => by clear hSw; go_simp⟩) (by assumption) ?_
  simp only [Act.put, List.setIfInBounds_toArray, List.set_cons_zero, List.set_cons_succ]
  refine wpAnyH_ready (rs := [6]) (by kernel_rfl) (by simp) ?_
  refine AllReadyH.cons (o := { dst := some 24, op := Op.buildSlice 22 1 #[(0, Operand.tmp 23)], type := 22, pos := "ref.go:90", after := #[{ on := 5, ground := Ground.data }], guard := none }) rfl (fun K hK => ?_) (AllReadyH.nil)
  go_simp
  refine hK.out _ _ (only_any (HW1.out)) (fun hHeld => ?_)
  clear hK K
  try simp only [Act.put, List.setIfInBounds_toArray, List.set_cons_zero, List.set_cons_succ]
  refine wpAnyH_ready (rs := [12]) (by kernel_rfl) (by simp) ?_
  refine AllReadyH.cons (o := { dst := some 30, op := Op.call { callee := Callee.value (Operand.func 40), args := #[Operand.tmp 18, Operand.tmp 22, Operand.tmp 24, Operand.tmp 29, Operand.const (Value.bool true)], argTypes := #[24, 22, 22, 22, 4] }, type := 33, pos := "ref.go:90", after := #[{ on := 0, ground := Ground.data }, { on := 4, ground := Ground.data }, { on := 6, ground := Ground.data }, { on := 11, ground := Ground.data }], guard := none }) rfl (fun K hK => ?_) (AllReadyH.nil)
  go_simp
  refine HC.out.mono ?_
  intro e x hx
  have hx := hx.res
  obtain ⟨B5, ao5, cp5, rfl, hS5, hF5, ho5, hn5⟩ := (show Res _ x e P.1 P.2 from by rw [← HP.out]; exact hx)
  have HO5 := hide ho5
  obtain ⟨q0, q1, q2, q3, q4, q5, t0, t1, t2, t3, t4, t5, tl⟩ := HB2.out.more (o2 HW1.out ho5)
  have HS5 := hide hS5
  have HN5 := hide hn5
  clear hx hS5 ho5 hn5
  refine hK.out _ _ (only_any (o2 HW1.out HO5.out)) (fun hHeld => ?_)
  clear hK K
  try simp only [Act.put, List.setIfInBounds_toArray, List.set_cons_zero, List.set_cons_succ]
  refine wpAnyH_take (i := 13) (oi := { dst := some 31, op := Op.extract (Operand.tmp 30) 0, type := 24, pos := "ref.go:90", after := #[{ on := 12, ground := Ground.data }], guard := none }) (v := .agg #[.int .i64 P.1.lsn, .int .i64 P.1.kind, .int .i64 P.1.level, .int .i64 P.1.right, .string P.1.high, .slice ao5 P.1.items.length cp5]) rfl (by kernel_rfl) (by kernel_rfl) (by kernel_rfl) (fun _ _ _ h => h) (Or.inl ⟨by rfl, fun w' hSw => by clear hSw; go_simp⟩) (by assumption) ?_
  simp only [Act.put, List.setIfInBounds_toArray, List.set_cons_zero, List.set_cons_succ]
  refine wpAnyH_take (i := 14) (oi := { dst := some 32, op := Op.extract (Operand.tmp 30) 1, type := 26, pos := "ref.go:90", after := #[{ on := 12, ground := Ground.data }], guard := none }) (v := .int .i64 P.2) rfl (by kernel_rfl) (by kernel_rfl) (by kernel_rfl) (fun _ _ _ h => h) (Or.inl ⟨by rfl, fun w' hSw => by clear hSw; go_simp⟩) (by assumption) ?_
  simp only [Act.put, List.setIfInBounds_toArray, List.set_cons_zero, List.set_cons_succ]
  refine wpAnyH_ready (rs := [15]) (by kernel_rfl) (by simp) ?_
  refine AllReadyH.cons (o := { dst := none, op := Op.store 24 (Operand.tmp 6) (Operand.tmp 31), type := 0, pos := "ref.go:90", after := #[{ on := 13, ground := Ground.data }, { on := 12, ground := Ground.chain }, { on := 0, ground := Ground.phase }, { on := 1, ground := Ground.phase }, { on := 2, ground := Ground.phase }, { on := 3, ground := Ground.phase }, { on := 4, ground := Ground.phase }, { on := 5, ground := Ground.phase }, { on := 6, ground := Ground.phase }, { on := 7, ground := Ground.phase }, { on := 8, ground := Ground.phase }, { on := 9, ground := Ground.phase }, { on := 10, ground := Ground.phase }, { on := 11, ground := Ground.phase }, { on := 12, ground := Ground.phase }, { on := 13, ground := Ground.phase }, { on := 14, ground := Ground.phase }], guard := none }) rfl (fun K hK => ?_) (AllReadyH.nil)
  go_simp
  refine hK.out _ _ ((only_any (o2 HW1.out HO5.out)).trans (Only.six _ _ _ _ _ _ _ _) (fun _ _ h => h)) (fun hHeld => ?_)
  clear hK K
  try simp only [Act.put, List.setIfInBounds_toArray, List.set_cons_zero, List.set_cons_succ]
  refine wpAnyH_take (i := 16) (oi := { dst := some 7, op := Op.assign (Operand.tmp 32), type := 26, pos := "ref.go:90", after := #[{ on := 14, ground := Ground.data }, { on := 15, ground := Ground.chain }, { on := 0, ground := Ground.phase }, { on := 1, ground := Ground.phase }, { on := 2, ground := Ground.phase }, { on := 3, ground := Ground.phase }, { on := 4, ground := Ground.phase }, { on := 5, ground := Ground.phase }, { on := 6, ground := Ground.phase }, { on := 7, ground := Ground.phase }, { on := 8, ground := Ground.phase }, { on := 9, ground := Ground.phase }, { on := 10, ground := Ground.phase }, { on := 11, ground := Ground.phase }, { on := 12, ground := Ground.phase }, { on := 13, ground := Ground.phase }, { on := 14, ground := Ground.phase }, { on := 15, ground := Ground.phase }], guard := none }) (v := .int .i64 P.2) rfl (by kernel_rfl) (by kernel_rfl) (by kernel_rfl) (fun _ _ _ h => h) (Or.inl ⟨by rfl, fun w' hSw => by clear hSw; go_simp⟩) (by assumption) ?_
  simp only [Act.put, List.setIfInBounds_toArray, List.set_cons_zero, List.set_cons_succ]
  refine wpAnyH_done (by kernel_rfl) ?_ _
  refine NoPanic.normal ?_
  rw [Exit.then]
  go_wp2_with fail
  refine bodyPost_ret (results_page rfl rfl (Pag.six (HB2.out.more (o2 HW1.out HO5.out)) _ _ _ _ _ _)) rfl ?_
  exact res_laid (o2 HB0.out HW1.out) HBS.out HS5.out hF5 HO5.out HN5.out _ _ _ _ _ _

set_option maxRecDepth 100000 in
set_option maxHeartbeats 3200000 in
theorem yput_some (w : World) (a k v r : Int) (h : ByteArray) (B b o cp : Nat) (l : List ByteArray) (i : Nat) (it : ByteArray) (hit : it.size ≤ 140737488355328) (hS : Strs w B (some ⟨b, o, none⟩) l) (hF : Fit (some ⟨b, o, none⟩) l.length cp) (hh : h.size ≤ 140737488355328) (hi : i ≤ l.length) (hlm : l.length ≤ 8796093021952) :
    Calls Tryd.prog 19 #[.agg #[.int .i64 a, .int .i64 k, .int .i64 v, .int .i64 r, .string h, .slice (some ⟨b, o, none⟩) l.length cp], .int .i64 (i : Int), .string it] w fun e w' =>
      Res w w' e (chg (true = true ∧ (255 < (l.take i ++ [it] ++ l.drop i).length ∨ 512 < 20 + h.size + isz (l.take i ++ [it] ++ l.drop i))) ⟨a, k, v, r, h, l.take i ++ [it] ++ l.drop i⟩).1 (chg (true = true ∧ (255 < (l.take i ++ [it] ++ l.drop i).length ∨ 512 < 20 + h.size + isz (l.take i ++ [it] ++ l.drop i))) ⟨a, k, v, r, h, l.take i ++ [it] ++ l.drop i⟩).2 := by
  have hcp := hF.le
  have hbig := hF.big
  obtain ⟨m, hm⟩ : ∃ m, i + 1 = m := ⟨_, rfl⟩
  obtain ⟨A2, hA2⟩ : ∃ A2, (if cp = i then some (⟨b, o, none⟩ : Addr) else some ⟨b, o + i, none⟩) = A2 := ⟨_, rfl⟩
  have hA : i < l.length → A2 = some ⟨b, o + i, none⟩ := fun hk => by rw [← hA2, if_neg (by omega)]
  have hA0 : A2 ≠ none := by rw [← hA2]; split <;> simp
  have HB0 := hide (boxes_only w a k v r h (.slice (some ⟨b, o, none⟩) l.length cp))
  have HB1 := hide (boxes_one w a k v r h (.slice (some ⟨b, o, none⟩) l.length cp))
  have HB2 := hide (boxes_two w a k v r h (.slice (some ⟨b, o, none⟩) l.length cp))
  have HBZ := hide (boxes_size w a k v r h (.slice (some ⟨b, o, none⟩) l.length cp))
  obtain ⟨W0, hW0⟩ : ∃ W0, boxes w a k v r h (.slice (some ⟨b, o, none⟩) l.length cp) = W0 := ⟨_, rfl⟩
  rw [hW0] at HB0 HB1 HB2 HBZ
  have HW0 := hide hW0
  clear hW0
  have HS := hide (hS.more HB0.out)
  have hW1 : Only (fun _ => False) W0 (W0.drew.alloc (.cells #[.string it] 9)) := o2 (Only.drew _ _) (onlyA _ _)
  have HC := hide (changed_any (W0.drew.alloc (.cells #[.string it] 9)) a k v r h (.slice (some ⟨b, o, none⟩) l.length cp) (some ⟨b, o, none⟩) (some ⟨W0.heap.size, 0, none⟩) A2 B W0.heap.size B cp 1 (cp - i) i 1 (l.length - i) (l.take i) [it] (l.drop i) true (by simp; omega) (by rfl) (by simp)
    ((HS.out.more hW1).take i) (Strs.one W0.drew it hit) ((HS.out.more hW1).drop i _ hA) ⟨fun h => (by cases h), by omega, hbig⟩ ⟨fun h => (by cases h), by omega, by unfold maxLen; omega⟩ ⟨fun h => absurd h hA0, by omega, by omega⟩ hh (by omega))
  have HW1 := hide hW1
  have HBS : Hid (w.heap.size + 1 < (W0.drew.alloc (.cells #[.string it] 9)).heap.size) := by unfold Hid; have h1 := hW1.size; have h2 := HBZ.out; omega
  obtain ⟨P, hP⟩ : ∃ P, chg (true = true ∧ (255 < (l.take i ++ [it] ++ l.drop i).length ∨ 512 < 20 + h.size + isz (l.take i ++ [it] ++ l.drop i))) ⟨a, k, v, r, h, l.take i ++ [it] ++ l.drop i⟩ = P := ⟨_, rfl⟩
  rw [hP]
  have HP := hide hP
  unfold maxLen at hbig
  have hi0 : (0 : Int) ≤ (i : Int) := by omega
  have hi1 : (i : Int) ≤ (l.length : Int) := by omega
  have hi2 : (0 : Int) ≤ (m : Int) := by omega
  have hi5 : (i : Int) + 1 = (m : Int) := by omega
  have hi8 : IntKind.i64.wrap (m : Int) = (m : Int) := wraps_i64 _ (by omega) (by omega)
  have hi6 : (i : Int) ≤ (cp : Int) := by omega
  have hi9 : (i : Int) ≤ (l.length : Int) := by omega
  have hi7 : (l.length : Int) ≤ (cp : Int) := by omega
  clear hm hA hA0 hP hS hF hW1
  obtain ⟨p0, p1, p2, p3, p4, p5, g0, g1, g2, g3, g4, g5, gl⟩ := HB1.out
  go_enter Tryd.func19, Tryd.ntmps19
  go_upto_region 1 with fail
  first | rw [show (w.alloc (.cells #[.int .i64 a, .int .i64 k, .int .i64 v, .int .i64 r, .string h, .slice (some ⟨b, o, none⟩) l.length cp] 24)).alloc (.cells #[.int .i64 0, .int .i64 0, .int .i64 0, .int .i64 0, .string ⟨#[]⟩, .slice none 0 0] 24) = W0 from HW0.out]
  go_upto_region 3 with fail
  refine wp_region_noPanic ?_
  refine wp_region_held_drew (S := fun W => Only (fun k => k = w.heap.size + 1) W0 W) (by kernel_rfl) (Only.drew _ _) (fun hHeld => ?_)
  refine wpAnyH_take (i := 0) (oi := { dst := some 18, op := Op.load 24 (Operand.tmp 3), type := 24, pos := "ref.go:97", after := #[], guard := none }) (v := .agg #[.int .i64 a, .int .i64 k, .int .i64 v, .int .i64 r, .string h, .slice (some ⟨b, o, none⟩) l.length cp]) rfl (by kernel_rfl) (by kernel_rfl) (by kernel_rfl) (fun _ _ _ h => h) (yieldsIf_load_page (by rfl) _ rfl _ rfl (fun W hW => HB1.out.kept hW (by omega))) (by assumption) ?_
  simp only [Act.put, List.setIfInBounds_toArray, List.set_cons_zero, List.set_cons_succ]
  refine wpAnyH_take (i := 1) (oi := { dst := some 19, op := Op.fieldAddr 24 (Operand.tmp 3) 5, type := 0, pos := "ref.go:97", after := #[], guard := none }) (v := .pointer (some ⟨w.heap.size, 5, none⟩)) rfl (by kernel_rfl) (by kernel_rfl) (by kernel_rfl) (fun _ _ _ h => h) (Or.inl ⟨by rfl, fun w' hSw => by clear hSw; go_simp⟩) (by assumption) ?_
  simp only [Act.put, List.setIfInBounds_toArray, List.set_cons_zero, List.set_cons_succ]
  refine wpAnyH_take (i := 3) (oi := { dst := some 21, op := Op.move (Operand.tmp 1), type := 3, pos := "ref.go:97", after := #[], guard := none }) (v := .int .i64 (i : Int)) rfl (by kernel_rfl) (by kernel_rfl) (by kernel_rfl) (fun _ _ _ h => h) (Or.inl ⟨by rfl, fun w' hSw => by clear hSw; go_simp⟩) (by assumption) ?_
  simp only [Act.put, List.setIfInBounds_toArray, List.set_cons_zero, List.set_cons_succ]
  refine wpAnyH_take (i := 5) (oi := { dst := some 23, op := Op.move (Operand.tmp 2), type := 9, pos := "ref.go:97", after := #[], guard := none }) (v := .string it) rfl (by kernel_rfl) (by kernel_rfl) (by kernel_rfl) (fun _ _ _ h => h) (Or.inl ⟨by rfl, fun w' hSw => by clear hSw; go_simp⟩) (by assumption) ?_
  simp only [Act.put, List.setIfInBounds_toArray, List.set_cons_zero, List.set_cons_succ]
  refine wpAnyH_take (i := 7) (oi := { dst := some 25, op := Op.fieldAddr 24 (Operand.tmp 3) 5, type := 0, pos := "ref.go:97", after := #[], guard := none }) (v := .pointer (some ⟨w.heap.size, 5, none⟩)) rfl (by kernel_rfl) (by kernel_rfl) (by kernel_rfl) (fun _ _ _ h => h) (Or.inl ⟨by rfl, fun w' hSw => by clear hSw; go_simp⟩) (by assumption) ?_
  simp only [Act.put, List.setIfInBounds_toArray, List.set_cons_zero, List.set_cons_succ]
  refine wpAnyH_take (i := 9) (oi := { dst := some 27, op := Op.move (Operand.tmp 1), type := 3, pos := "ref.go:97", after := #[], guard := none }) (v := .int .i64 (i : Int)) rfl (by kernel_rfl) (by kernel_rfl) (by kernel_rfl) (fun _ _ _ h => h) (Or.inl ⟨by rfl, fun w' hSw => by clear hSw; go_simp⟩) (by assumption) ?_
  simp only [Act.put, List.setIfInBounds_toArray, List.set_cons_zero, List.set_cons_succ]
  refine wpAnyH_take (i := 2) (oi := { dst := some 20, op := Op.load 22 (Operand.tmp 19), type := 22, pos := "ref.go:97", after := #[{ on := 1, ground := Ground.data }], guard := none }) (v := .slice (some ⟨b, o, none⟩) l.length cp) rfl (by kernel_rfl) (by kernel_rfl) (by kernel_rfl) (fun _ _ _ h => h) (yieldsIf_load_cell (by rfl) 22 _ rfl _ rfl (fun W hW => (HB1.out.kept hW (by omega)).c5) (fun W hc => ld_strings hc)) (by assumption) ?_
  simp only [Act.put, List.setIfInBounds_toArray, List.set_cons_zero, List.set_cons_succ]
  refine wpAnyH_take (i := 8) (oi := { dst := some 26, op := Op.load 22 (Operand.tmp 25), type := 22, pos := "ref.go:97", after := #[{ on := 7, ground := Ground.data }], guard := none }) (v := .slice (some ⟨b, o, none⟩) l.length cp) rfl (by kernel_rfl) (by kernel_rfl) (by kernel_rfl) (fun _ _ _ h => h) (yieldsIf_load_cell (by rfl) 22 _ rfl _ rfl (fun W hW => (HB1.out.kept hW (by omega)).c5) (fun W hc => ld_strings hc)) (by assumption) ?_
  simp only [Act.put, List.setIfInBounds_toArray, List.set_cons_zero, List.set_cons_succ]
  refine wpAnyH_take (i := 4) (oi := { dst := some 22, op := Op.slice 22 (Operand.tmp 20) none (some (Operand.tmp 21)) none, type := 22, pos := "ref.go:97", after := #[{ on := 2, ground := Ground.data }, { on := 3, ground := Ground.data }], guard := none }) (v := .slice (some ⟨b, o, none⟩) i cp) rfl (by kernel_rfl) (by kernel_rfl) (by kernel_rfl) (fun _ _ _ h => h) (Or.inl ⟨by rfl, fun w' hSw => by clear hSw; go_simp⟩) (by assumption) ?_
  simp only [Act.put, List.setIfInBounds_toArray, List.set_cons_zero, List.set_cons_succ]
  refine wpAnyH_take (i := 10) (oi := { dst := some 28, op := Op.slice 22 (Operand.tmp 26) (some (Operand.tmp 27)) none none, type := 22, pos := "ref.go:97", after := #[{ on := 8, ground := Ground.data }, { on := 9, ground := Ground.data }], guard := none }) (v := .slice A2 (l.length - i) (cp - i)) rfl (by kernel_rfl) (by kernel_rfl) (by kernel_rfl) (fun _ _ _ h => h) (Or.inl ⟨by rfl, fun w' hSw => by clear hSw; go_simp⟩) (by assumption) ?_
  simp only [Act.put, List.setIfInBounds_toArray, List.set_cons_zero, List.set_cons_succ]
  refine wpAnyH_ready (rs := [6]) (by kernel_rfl) (by simp) ?_
  refine AllReadyH.cons (o := { dst := some 24, op := Op.buildSlice 22 1 #[(0, Operand.tmp 23)], type := 22, pos := "ref.go:97", after := #[{ on := 5, ground := Ground.data }], guard := none }) rfl (fun K hK => ?_) (AllReadyH.nil)
  go_simp
  refine hK.out _ _ (only_any (HW1.out)) (fun hHeld => ?_)
  clear hK K
  try simp only [Act.put, List.setIfInBounds_toArray, List.set_cons_zero, List.set_cons_succ]
  refine wpAnyH_ready (rs := [11]) (by kernel_rfl) (by simp) ?_
  refine AllReadyH.cons (o := { dst := some 29, op := Op.call { callee := Callee.value (Operand.func 40), args := #[Operand.tmp 18, Operand.tmp 22, Operand.tmp 24, Operand.tmp 28, Operand.const (Value.bool true)], argTypes := #[24, 22, 22, 22, 4] }, type := 33, pos := "ref.go:97", after := #[{ on := 0, ground := Ground.data }, { on := 4, ground := Ground.data }, { on := 6, ground := Ground.data }, { on := 10, ground := Ground.data }], guard := none }) rfl (fun K hK => ?_) (AllReadyH.nil)
  go_simp
  refine HC.out.mono ?_
  intro e x hx
  have hx := hx.res
  obtain ⟨B5, ao5, cp5, rfl, hS5, hF5, ho5, hn5⟩ := (show Res _ x e P.1 P.2 from by rw [← HP.out]; exact hx)
  have HO5 := hide ho5
  obtain ⟨q0, q1, q2, q3, q4, q5, t0, t1, t2, t3, t4, t5, tl⟩ := HB2.out.more (o2 HW1.out ho5)
  have HS5 := hide hS5
  have HN5 := hide hn5
  clear hx hS5 ho5 hn5
  refine hK.out _ _ (only_any (o2 HW1.out HO5.out)) (fun hHeld => ?_)
  clear hK K
  try simp only [Act.put, List.setIfInBounds_toArray, List.set_cons_zero, List.set_cons_succ]
  refine wpAnyH_take (i := 12) (oi := { dst := some 30, op := Op.extract (Operand.tmp 29) 0, type := 24, pos := "ref.go:97", after := #[{ on := 11, ground := Ground.data }], guard := none }) (v := .agg #[.int .i64 P.1.lsn, .int .i64 P.1.kind, .int .i64 P.1.level, .int .i64 P.1.right, .string P.1.high, .slice ao5 P.1.items.length cp5]) rfl (by kernel_rfl) (by kernel_rfl) (by kernel_rfl) (fun _ _ _ h => h) (Or.inl ⟨by rfl, fun w' hSw => by clear hSw; go_simp⟩) (by assumption) ?_
  simp only [Act.put, List.setIfInBounds_toArray, List.set_cons_zero, List.set_cons_succ]
  refine wpAnyH_take (i := 13) (oi := { dst := some 31, op := Op.extract (Operand.tmp 29) 1, type := 26, pos := "ref.go:97", after := #[{ on := 11, ground := Ground.data }], guard := none }) (v := .int .i64 P.2) rfl (by kernel_rfl) (by kernel_rfl) (by kernel_rfl) (fun _ _ _ h => h) (Or.inl ⟨by rfl, fun w' hSw => by clear hSw; go_simp⟩) (by assumption) ?_
  simp only [Act.put, List.setIfInBounds_toArray, List.set_cons_zero, List.set_cons_succ]
  refine wpAnyH_ready (rs := [14]) (by kernel_rfl) (by simp) ?_
  refine AllReadyH.cons (o := { dst := none, op := Op.store 24 (Operand.tmp 6) (Operand.tmp 30), type := 0, pos := "ref.go:97", after := #[{ on := 12, ground := Ground.data }, { on := 11, ground := Ground.chain }, { on := 0, ground := Ground.phase }, { on := 1, ground := Ground.phase }, { on := 2, ground := Ground.phase }, { on := 3, ground := Ground.phase }, { on := 4, ground := Ground.phase }, { on := 5, ground := Ground.phase }, { on := 6, ground := Ground.phase }, { on := 7, ground := Ground.phase }, { on := 8, ground := Ground.phase }, { on := 9, ground := Ground.phase }, { on := 10, ground := Ground.phase }, { on := 11, ground := Ground.phase }, { on := 12, ground := Ground.phase }, { on := 13, ground := Ground.phase }], guard := none }) rfl (fun K hK => ?_) (AllReadyH.nil)
  go_simp
  refine hK.out _ _ ((only_any (o2 HW1.out HO5.out)).trans (Only.six _ _ _ _ _ _ _ _) (fun _ _ h => h)) (fun hHeld => ?_)
  clear hK K
  try simp only [Act.put, List.setIfInBounds_toArray, List.set_cons_zero, List.set_cons_succ]
  refine wpAnyH_take (i := 15) (oi := { dst := some 7, op := Op.assign (Operand.tmp 31), type := 26, pos := "ref.go:97", after := #[{ on := 13, ground := Ground.data }, { on := 14, ground := Ground.chain }, { on := 0, ground := Ground.phase }, { on := 1, ground := Ground.phase }, { on := 2, ground := Ground.phase }, { on := 3, ground := Ground.phase }, { on := 4, ground := Ground.phase }, { on := 5, ground := Ground.phase }, { on := 6, ground := Ground.phase }, { on := 7, ground := Ground.phase }, { on := 8, ground := Ground.phase }, { on := 9, ground := Ground.phase }, { on := 10, ground := Ground.phase }, { on := 11, ground := Ground.phase }, { on := 12, ground := Ground.phase }, { on := 13, ground := Ground.phase }, { on := 14, ground := Ground.phase }], guard := none }) (v := .int .i64 P.2) rfl (by kernel_rfl) (by kernel_rfl) (by kernel_rfl) (fun _ _ _ h => h) (Or.inl ⟨by rfl, fun w' hSw => by clear hSw; go_simp⟩) (by assumption) ?_
  simp only [Act.put, List.setIfInBounds_toArray, List.set_cons_zero, List.set_cons_succ]
  refine wpAnyH_done (by kernel_rfl) ?_ _
  refine NoPanic.normal ?_
  rw [Exit.then]
  go_wp2_with fail
  refine bodyPost_ret (results_page rfl rfl (Pag.six (HB2.out.more (o2 HW1.out HO5.out)) _ _ _ _ _ _)) rfl ?_
  exact res_laid (o2 HB0.out HW1.out) HBS.out HS5.out hF5 HO5.out HN5.out _ _ _ _ _ _

set_option maxRecDepth 100000 in
set_option maxHeartbeats 3200000 in
theorem yout_some (w : World) (a k v r : Int) (h : ByteArray) (B b o cp : Nat) (l : List ByteArray) (i : Nat) (hS : Strs w B (some ⟨b, o, none⟩) l) (hF : Fit (some ⟨b, o, none⟩) l.length cp) (hh : h.size ≤ 140737488355328) (hi : i < l.length) (hlm : l.length ≤ 8796093021952) :
    Calls Tryd.prog 20 #[.agg #[.int .i64 a, .int .i64 k, .int .i64 v, .int .i64 r, .string h, .slice (some ⟨b, o, none⟩) l.length cp], .int .i64 (i : Int)] w fun e w' =>
      Res w w' e (chg (false = true ∧ (255 < (l.take i ++ [] ++ l.drop (i + 1)).length ∨ 512 < 20 + h.size + isz (l.take i ++ [] ++ l.drop (i + 1)))) ⟨a, k, v, r, h, l.take i ++ [] ++ l.drop (i + 1)⟩).1 (chg (false = true ∧ (255 < (l.take i ++ [] ++ l.drop (i + 1)).length ∨ 512 < 20 + h.size + isz (l.take i ++ [] ++ l.drop (i + 1)))) ⟨a, k, v, r, h, l.take i ++ [] ++ l.drop (i + 1)⟩).2 := by
  have hcp := hF.le
  have hbig := hF.big
  obtain ⟨m, hm⟩ : ∃ m, i + 1 = m := ⟨_, rfl⟩
  obtain ⟨A2, hA2⟩ : ∃ A2, (if cp = m then some (⟨b, o, none⟩ : Addr) else some ⟨b, o + m, none⟩) = A2 := ⟨_, rfl⟩
  have hA : m < l.length → A2 = some ⟨b, o + m, none⟩ := fun hk => by rw [← hA2, if_neg (by omega)]
  have hA0 : A2 ≠ none := by rw [← hA2]; split <;> simp
  have HB0 := hide (boxes_only w a k v r h (.slice (some ⟨b, o, none⟩) l.length cp))
  have HB1 := hide (boxes_one w a k v r h (.slice (some ⟨b, o, none⟩) l.length cp))
  have HB2 := hide (boxes_two w a k v r h (.slice (some ⟨b, o, none⟩) l.length cp))
  have HBZ := hide (boxes_size w a k v r h (.slice (some ⟨b, o, none⟩) l.length cp))
  obtain ⟨W0, hW0⟩ : ∃ W0, boxes w a k v r h (.slice (some ⟨b, o, none⟩) l.length cp) = W0 := ⟨_, rfl⟩
  rw [hW0] at HB0 HB1 HB2 HBZ
  have HW0 := hide hW0
  clear hW0
  have HS := hide (hS.more HB0.out)
  have hW1 : Only (fun _ => False) W0 W0.drew := Only.drew _ _
  have HC := hide (changed_any W0.drew a k v r h (.slice (some ⟨b, o, none⟩) l.length cp) (some ⟨b, o, none⟩) none A2 B 0 B cp 0 (cp - m) i 0 (l.length - m) (l.take i) [] (l.drop m) false (by simp; omega) (by rfl) (by simp)
    ((HS.out.more hW1).take i) (Strs.nil _ 0 _) ((HS.out.more hW1).drop m _ hA) ⟨fun h => (by cases h), by omega, hbig⟩ ⟨fun _ => rfl, by omega, by unfold maxLen; omega⟩ ⟨fun h => absurd h hA0, by omega, by omega⟩ hh (by omega))
  have HW1 := hide hW1
  have HBS : Hid (w.heap.size + 1 < W0.drew.heap.size) := by unfold Hid; have h1 := hW1.size; have h2 := HBZ.out; omega
  obtain ⟨P, hP⟩ : ∃ P, chg (false = true ∧ (255 < (l.take i ++ [] ++ l.drop (i + 1)).length ∨ 512 < 20 + h.size + isz (l.take i ++ [] ++ l.drop (i + 1)))) ⟨a, k, v, r, h, l.take i ++ [] ++ l.drop (i + 1)⟩ = P := ⟨_, rfl⟩
  rw [hP]
  rw [hm] at hP
  have HP := hide hP
  unfold maxLen at hbig
  have hi0 : (0 : Int) ≤ (i : Int) := by omega
  have hi1 : (i : Int) < (l.length : Int) := by omega
  have hi2 : (0 : Int) ≤ (m : Int) := by omega
  have hi5 : (i : Int) + 1 = (m : Int) := by omega
  have hi8 : IntKind.i64.wrap (m : Int) = (m : Int) := wraps_i64 _ (by omega) (by omega)
  have hi6 : (i : Int) ≤ (cp : Int) := by omega
  have hi9 : (i : Int) ≤ (l.length : Int) := by omega
  have hi7 : (l.length : Int) ≤ (cp : Int) := by omega
  have hi3 : (m : Int) ≤ (l.length : Int) := by omega
  have hi4 : (m : Int) ≤ (cp : Int) := by omega
  clear hm hA hA0 hP hS hF hW1
  obtain ⟨p0, p1, p2, p3, p4, p5, g0, g1, g2, g3, g4, g5, gl⟩ := HB1.out
  go_enter Tryd.func20, Tryd.ntmps20
  go_upto_region 1 with fail
  first | rw [show (w.alloc (.cells #[.int .i64 a, .int .i64 k, .int .i64 v, .int .i64 r, .string h, .slice (some ⟨b, o, none⟩) l.length cp] 24)).alloc (.cells #[.int .i64 0, .int .i64 0, .int .i64 0, .int .i64 0, .string ⟨#[]⟩, .slice none 0 0] 24) = W0 from HW0.out]
  go_upto_region 3 with fail
  refine wp_region_noPanic ?_
  refine wp_region_held_drew (S := fun W => Only (fun k => k = w.heap.size + 1) W0 W) (by kernel_rfl) (Only.drew _ _) (fun hHeld => ?_)
  refine wpAnyH_take (i := 0) (oi := { dst := some 16, op := Op.load 24 (Operand.tmp 2), type := 24, pos := "ref.go:104", after := #[], guard := none }) (v := .agg #[.int .i64 a, .int .i64 k, .int .i64 v, .int .i64 r, .string h, .slice (some ⟨b, o, none⟩) l.length cp]) rfl (by kernel_rfl) (by kernel_rfl) (by kernel_rfl) (fun _ _ _ h => h) (yieldsIf_load_page (by rfl) _ rfl _ rfl (fun W hW => HB1.out.kept hW (by omega))) (by assumption) ?_
  simp only [Act.put, List.setIfInBounds_toArray, List.set_cons_zero, List.set_cons_succ]
  refine wpAnyH_take (i := 1) (oi := { dst := some 17, op := Op.fieldAddr 24 (Operand.tmp 2) 5, type := 0, pos := "ref.go:104", after := #[], guard := none }) (v := .pointer (some ⟨w.heap.size, 5, none⟩)) rfl (by kernel_rfl) (by kernel_rfl) (by kernel_rfl) (fun _ _ _ h => h) (Or.inl ⟨by rfl, fun w' hSw => by clear hSw; go_simp⟩) (by assumption) ?_
  simp only [Act.put, List.setIfInBounds_toArray, List.set_cons_zero, List.set_cons_succ]
  refine wpAnyH_take (i := 3) (oi := { dst := some 19, op := Op.move (Operand.tmp 1), type := 3, pos := "ref.go:104", after := #[], guard := none }) (v := .int .i64 (i : Int)) rfl (by kernel_rfl) (by kernel_rfl) (by kernel_rfl) (fun _ _ _ h => h) (Or.inl ⟨by rfl, fun w' hSw => by clear hSw; go_simp⟩) (by assumption) ?_
  simp only [Act.put, List.setIfInBounds_toArray, List.set_cons_zero, List.set_cons_succ]
  refine wpAnyH_take (i := 5) (oi := { dst := some 21, op := Op.fieldAddr 24 (Operand.tmp 2) 5, type := 0, pos := "ref.go:104", after := #[], guard := none }) (v := .pointer (some ⟨w.heap.size, 5, none⟩)) rfl (by kernel_rfl) (by kernel_rfl) (by kernel_rfl) (fun _ _ _ h => h) (Or.inl ⟨by rfl, fun w' hSw => by clear hSw; go_simp⟩) (by assumption) ?_
  simp only [Act.put, List.setIfInBounds_toArray, List.set_cons_zero, List.set_cons_succ]
  refine wpAnyH_take (i := 7) (oi := { dst := some 23, op := Op.move (Operand.tmp 1), type := 3, pos := "ref.go:104", after := #[], guard := none }) (v := .int .i64 (i : Int)) rfl (by kernel_rfl) (by kernel_rfl) (by kernel_rfl) (fun _ _ _ h => h) (Or.inl ⟨by rfl, fun w' hSw => by clear hSw; go_simp⟩) (by assumption) ?_
  simp only [Act.put, List.setIfInBounds_toArray, List.set_cons_zero, List.set_cons_succ]
  refine wpAnyH_take (i := 2) (oi := { dst := some 18, op := Op.load 22 (Operand.tmp 17), type := 22, pos := "ref.go:104", after := #[{ on := 1, ground := Ground.data }], guard := none }) (v := .slice (some ⟨b, o, none⟩) l.length cp) rfl (by kernel_rfl) (by kernel_rfl) (by kernel_rfl) (fun _ _ _ h => h) (yieldsIf_load_cell (by rfl) 22 _ rfl _ rfl (fun W hW => (HB1.out.kept hW (by omega)).c5) (fun W hc => ld_strings hc)) (by assumption) ?_
  simp only [Act.put, List.setIfInBounds_toArray, List.set_cons_zero, List.set_cons_succ]
  refine wpAnyH_take (i := 6) (oi := { dst := some 22, op := Op.load 22 (Operand.tmp 21), type := 22, pos := "ref.go:104", after := #[{ on := 5, ground := Ground.data }], guard := none }) (v := .slice (some ⟨b, o, none⟩) l.length cp) rfl (by kernel_rfl) (by kernel_rfl) (by kernel_rfl) (fun _ _ _ h => h) (yieldsIf_load_cell (by rfl) 22 _ rfl _ rfl (fun W hW => (HB1.out.kept hW (by omega)).c5) (fun W hc => ld_strings hc)) (by assumption) ?_
  simp only [Act.put, List.setIfInBounds_toArray, List.set_cons_zero, List.set_cons_succ]
  refine wpAnyH_take (i := 8) (oi := { dst := some 24, op := Op.binOp BinOp.add 3 (Operand.tmp 23) (Operand.const (Value.int IntKind.i64 1)) 3, type := 3, pos := "ref.go:104", after := #[{ on := 7, ground := Ground.data }], guard := none }) (v := .int .i64 (m : Int)) rfl (by kernel_rfl) (by kernel_rfl) (by kernel_rfl) (fun _ _ _ h => h) (Or.inl ⟨by rfl, fun w' hSw => by clear hSw; go_simp⟩) (by assumption) ?_
  simp only [Act.put, List.setIfInBounds_toArray, List.set_cons_zero, List.set_cons_succ]
  refine wpAnyH_take (i := 4) (oi := { dst := some 20, op := Op.slice 22 (Operand.tmp 18) none (some (Operand.tmp 19)) none, type := 22, pos := "ref.go:104", after := #[{ on := 2, ground := Ground.data }, { on := 3, ground := Ground.data }], guard := none }) (v := .slice (some ⟨b, o, none⟩) i cp) rfl (by kernel_rfl) (by kernel_rfl) (by kernel_rfl) (fun _ _ _ h => h) (Or.inl ⟨by rfl, fun w' hSw => by clear hSw; go_simp⟩) (by assumption) ?_
  simp only [Act.put, List.setIfInBounds_toArray, List.set_cons_zero, List.set_cons_succ]
  refine wpAnyH_take (i := 9) (oi := { dst := some 25, op := Op.slice 22 (Operand.tmp 22) (some (Operand.tmp 24)) none none, type := 22, pos := "ref.go:104", after := #[{ on := 6, ground := Ground.data }, { on := 8, ground := Ground.data }], guard := none }) (v := .slice A2 (l.length - m) (cp - m)) rfl (by kernel_rfl) (by kernel_rfl) (by kernel_rfl) (fun _ _ _ h => h) (Or.inl ⟨by rfl, fun w' hSw => by clear hSw; go_simp⟩) (by assumption) ?_
  simp only [Act.put, List.setIfInBounds_toArray, List.set_cons_zero, List.set_cons_succ]
  refine wpAnyH_ready (rs := [10]) (by kernel_rfl) (by simp) ?_
  refine AllReadyH.cons (o := { dst := some 26, op := Op.call { callee := Callee.value (Operand.func 40), args := #[Operand.tmp 16, Operand.tmp 20, Operand.const (Value.slice none 0 0), Operand.tmp 25, Operand.const (Value.bool false)], argTypes := #[24, 22, 22, 22, 4] }, type := 33, pos := "ref.go:104", after := #[{ on := 0, ground := Ground.data }, { on := 4, ground := Ground.data }, { on := 9, ground := Ground.data }], guard := none }) rfl (fun K hK => ?_) (AllReadyH.nil)
  go_simp
  refine HC.out.mono ?_
  intro e x hx
  have hx := hx.res
  obtain ⟨B5, ao5, cp5, rfl, hS5, hF5, ho5, hn5⟩ := (show Res _ x e P.1 P.2 from by rw [← HP.out]; exact hx)
  have HO5 := hide ho5
  obtain ⟨q0, q1, q2, q3, q4, q5, t0, t1, t2, t3, t4, t5, tl⟩ := HB2.out.more (o2 HW1.out ho5)
  have HS5 := hide hS5
  have HN5 := hide hn5
  clear hx hS5 ho5 hn5
  refine hK.out _ _ (only_any (o2 HW1.out HO5.out)) (fun hHeld => ?_)
  clear hK K
  try simp only [Act.put, List.setIfInBounds_toArray, List.set_cons_zero, List.set_cons_succ]
  refine wpAnyH_take (i := 11) (oi := { dst := some 27, op := Op.extract (Operand.tmp 26) 0, type := 24, pos := "ref.go:104", after := #[{ on := 10, ground := Ground.data }], guard := none }) (v := .agg #[.int .i64 P.1.lsn, .int .i64 P.1.kind, .int .i64 P.1.level, .int .i64 P.1.right, .string P.1.high, .slice ao5 P.1.items.length cp5]) rfl (by kernel_rfl) (by kernel_rfl) (by kernel_rfl) (fun _ _ _ h => h) (Or.inl ⟨by rfl, fun w' hSw => by clear hSw; go_simp⟩) (by assumption) ?_
  simp only [Act.put, List.setIfInBounds_toArray, List.set_cons_zero, List.set_cons_succ]
  refine wpAnyH_take (i := 12) (oi := { dst := some 28, op := Op.extract (Operand.tmp 26) 1, type := 26, pos := "ref.go:104", after := #[{ on := 10, ground := Ground.data }], guard := none }) (v := .int .i64 P.2) rfl (by kernel_rfl) (by kernel_rfl) (by kernel_rfl) (fun _ _ _ h => h) (Or.inl ⟨by rfl, fun w' hSw => by clear hSw; go_simp⟩) (by assumption) ?_
  simp only [Act.put, List.setIfInBounds_toArray, List.set_cons_zero, List.set_cons_succ]
  refine wpAnyH_ready (rs := [13]) (by kernel_rfl) (by simp) ?_
  refine AllReadyH.cons (o := { dst := none, op := Op.store 24 (Operand.tmp 4) (Operand.tmp 27), type := 0, pos := "ref.go:104", after := #[{ on := 11, ground := Ground.data }, { on := 10, ground := Ground.chain }, { on := 0, ground := Ground.phase }, { on := 1, ground := Ground.phase }, { on := 2, ground := Ground.phase }, { on := 3, ground := Ground.phase }, { on := 4, ground := Ground.phase }, { on := 5, ground := Ground.phase }, { on := 6, ground := Ground.phase }, { on := 7, ground := Ground.phase }, { on := 8, ground := Ground.phase }, { on := 9, ground := Ground.phase }, { on := 10, ground := Ground.phase }, { on := 11, ground := Ground.phase }, { on := 12, ground := Ground.phase }], guard := none }) rfl (fun K hK => ?_) (AllReadyH.nil)
  go_simp
  refine hK.out _ _ ((only_any (o2 HW1.out HO5.out)).trans (Only.six _ _ _ _ _ _ _ _) (fun _ _ h => h)) (fun hHeld => ?_)
  clear hK K
  try simp only [Act.put, List.setIfInBounds_toArray, List.set_cons_zero, List.set_cons_succ]
  refine wpAnyH_take (i := 14) (oi := { dst := some 5, op := Op.assign (Operand.tmp 28), type := 26, pos := "ref.go:104", after := #[{ on := 12, ground := Ground.data }, { on := 13, ground := Ground.chain }, { on := 0, ground := Ground.phase }, { on := 1, ground := Ground.phase }, { on := 2, ground := Ground.phase }, { on := 3, ground := Ground.phase }, { on := 4, ground := Ground.phase }, { on := 5, ground := Ground.phase }, { on := 6, ground := Ground.phase }, { on := 7, ground := Ground.phase }, { on := 8, ground := Ground.phase }, { on := 9, ground := Ground.phase }, { on := 10, ground := Ground.phase }, { on := 11, ground := Ground.phase }, { on := 12, ground := Ground.phase }, { on := 13, ground := Ground.phase }], guard := none }) (v := .int .i64 P.2) rfl (by kernel_rfl) (by kernel_rfl) (by kernel_rfl) (fun _ _ _ h => h) (Or.inl ⟨by rfl, fun w' hSw => by clear hSw; go_simp⟩) (by assumption) ?_
  simp only [Act.put, List.setIfInBounds_toArray, List.set_cons_zero, List.set_cons_succ]
  refine wpAnyH_done (by kernel_rfl) ?_ _
  refine NoPanic.normal ?_
  rw [Exit.then]
  go_wp2_with fail
  refine bodyPost_ret (results_page rfl rfl (Pag.six (HB2.out.more (o2 HW1.out HO5.out)) _ _ _ _ _ _)) rfl ?_
  exact res_laid (o2 HB0.out HW1.out) HBS.out HS5.out hF5 HO5.out HN5.out _ _ _ _ _ _
end Go.Proofs.YtbhmhhnacpjgpaaDoor
