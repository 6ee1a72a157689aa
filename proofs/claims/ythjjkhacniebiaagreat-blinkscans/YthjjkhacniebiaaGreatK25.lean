/- A leaf with an entry less: Remove; an empty leaf: Leaf of package node. -/
import Derived.Test.YthjjkhacniebiaaGreatK24
import Derived.Deep.MidRow
import Derived.Laws.Tables
import Derived.Test.YthjjkhacniebiaaGreatK23
namespace Go.Proofs.YthjjkhacniebiaaGreat
open Go.RowKit

/-- Cells that lie in block b from o on, and may be written. -/
structure Rg (w : World) (b o : Nat) (cs : List Value) : Prop where
  range : w.rangeAt b o cs
  there : w.there b o cs.length
  lt : b < w.heap.size
theorem only_setCells (b : Nat) (vs : List Value) (o : Nat) (w : World) : Only (fun k => k = b) w (w.setCells b o vs) := by
  induction vs generalizing o w with
  | nil => exact Only.refl _ _
  | cons v r ih =>
    rw [World.setCells]
    exact (Only.setCell (S := fun k => k = b) w ⟨b, o, none⟩ v rfl).trans (ih (o + 1) _) (fun _ _ h => h)
theorem setCells_size (b : Nat) (vs : List Value) (o : Nat) (w : World) : (w.setCells b o vs).heap.size = w.heap.size := by
  induction vs generalizing o w with
  | nil => rfl
  | cons v r ih => rw [World.setCells, ih]; simp
theorem setCells_frozen (b : Nat) (vs : List Value) (o : Nat) (w : World) (p : Addr) : (w.setCells b o vs).frozen? p = w.frozen? p := by
  induction vs generalizing o w with
  | nil => rfl
  | cons v r ih => rw [World.setCells, ih]; simp
theorem setCells_apart (b : Nat) (vs : List Value) (o : Nat) (w : World) (j : Nat) (h : j < o ∨ o + vs.length ≤ j) : (w.setCells b o vs).cell? ⟨b, j, none⟩ = w.cell? ⟨b, j, none⟩ := by
  induction vs generalizing o w with
  | nil => rfl
  | cons v r ih =>
    rw [World.setCells, ih (o + 1) _ (by simp at h; omega)]
    exact World.cell?_setCell_other w ⟨b, o, none⟩ ⟨b, j, none⟩ v (by intro q; injection q with _ q2; rw [List.length_cons] at h; omega)
theorem Rg.new (w : World) (cs : Array Value) (t : TypeId) : Rg (w.alloc (.cells cs t)) w.heap.size 0 cs.toList :=
  ⟨fun j v hv => by rw [Nat.zero_add]; simpa using hv, fun j hj => by rw [Nat.zero_add]; exact ⟨by simpa using hj, by simp⟩, by simp⟩
theorem Rg.kept {S : Nat → Prop} {w w' : World} {b o : Nat} {cs : List Value} (h : Rg w b o cs) (ho : Only S w w') (hS : ¬ S b) : Rg w' b o cs :=
  ⟨fun j v hv => (ho.cell (p := ⟨b, o + j, none⟩) h.lt hS).trans (h.range j v hv), fun j hj => by
    obtain ⟨h1, h2⟩ := h.there j hj
    exact ⟨by rw [ho.cell (p := ⟨b, o + j, none⟩) h.lt hS]; exact h1, by rw [ho.frozen (p := ⟨b, o + j, none⟩) h.lt hS]; exact h2⟩, Nat.lt_of_lt_of_le h.lt ho.size⟩
theorem Rg.more {w w' : World} {b o : Nat} {cs : List Value} (h : Rg w b o cs) (ho : Only (fun _ => False) w w') : Rg w' b o cs := h.kept ho (fun h => h)
theorem Rg.cell {w : World} {b o : Nat} {cs : List Value} (h : Rg w b o cs) (j : Nat) (v : Value) (hv : cs[j]? = some v) : w.cell? ⟨b, o + j, none⟩ = some v := h.range j v hv
theorem Rg.fr {w : World} {b o : Nat} {cs : List Value} (h : Rg w b o cs) (j : Nat) (hj : j < cs.length) : w.frozen? ⟨b, o + j, none⟩ = false := (h.there j hj).2
/-- A part of a range. -/
theorem Rg.part {w : World} {b o : Nat} {c1 c2 c3 : List Value} (h : Rg w b o (c1 ++ c2 ++ c3)) : Rg w b (o + c1.length) c2 := by
  refine ⟨fun j v hv => ?_, fun j hj => ?_, h.lt⟩
  · have hj : j < c2.length := (List.getElem?_eq_some_iff.1 hv).1
    have := h.range (c1.length + j) v (by rw [List.append_assoc, List.getElem?_append_right (by omega), Nat.add_sub_cancel_left, List.getElem?_append_left hj]; exact hv)
    rwa [← Nat.add_assoc] at this
  · have := h.there (c1.length + j) (by simp only [List.length_append]; omega)
    rwa [← Nat.add_assoc] at this
theorem Rg.set {w : World} {b o : Nat} {cs : List Value} (h : Rg w b o cs) (ds : List Value) (hl : ds.length = cs.length) : Rg (w.setCells b o ds) b o ds := by
  have hr := World.rangeAt_setCells_same w b o ds (by rw [hl]; exact h.there)
  refine ⟨hr, fun j hj => ?_, by rw [setCells_size]; exact h.lt⟩
  exact ⟨by rw [hr j _ (List.getElem?_eq_getElem hj)]; rfl, by rw [setCells_frozen]; exact (h.there j (by omega)).2⟩
/-- A part of a range is written over. -/
theorem Rg.put {w : World} {b o : Nat} {c1 c2 c3 : List Value} (h : Rg w b o (c1 ++ c2 ++ c3)) (ds : List Value) (hl : ds.length = c2.length) : Rg (w.setCells b (o + c1.length) ds) b o (c1 ++ ds ++ c3) := by
  have hp := h.part.set ds hl
  refine ⟨fun j v hv => ?_, fun j hj => ?_, by rw [setCells_size]; exact h.lt⟩
  · by_cases k : j < c1.length
    · rw [setCells_apart _ _ _ _ _ (by omega)]
      refine h.range j v ?_
      rw [List.append_assoc, List.getElem?_append_left k] at hv ⊢
      exact hv
    · by_cases k2 : j < c1.length + c2.length
      · rw [List.append_assoc, List.getElem?_append_right (by omega), List.getElem?_append_left (by omega)] at hv
        have := hp.range (j - c1.length) v hv
        rwa [Nat.add_assoc, Nat.add_sub_cancel' (by omega)] at this
      · rw [setCells_apart _ _ _ _ _ (by omega)]
        refine h.range j v ?_
        rw [List.append_assoc, List.getElem?_append_right (by omega), List.getElem?_append_right (by omega)] at hv ⊢
        rw [← hl]
        exact hv
  · have hj' : j < (c1 ++ c2 ++ c3).length := by simp only [List.length_append] at hj ⊢; omega
    refine ⟨?_, by rw [setCells_frozen]; exact (h.there j hj').2⟩
    by_cases k2 : j < c1.length ∨ c1.length + ds.length ≤ j
    · rw [setCells_apart _ _ _ _ _ (by omega)]
      exact (h.there j hj').1
    · have := (hp.there (j - c1.length) (by omega)).1
      rwa [Nat.add_assoc, Nat.add_sub_cancel' (by omega)] at this

/-- A record of the tree. -/
structure Br where
  kind : Int
  page : Int
  data : ByteArray
  ia : Option Addr
  il : Nat
  ic : Nat
abbrev Br.none : Br := ⟨0, 0, ⟨#[]⟩, Option.none, 0, 0⟩
abbrev Br.cells (r : Br) : Array Value :=
  #[.int .i64 0, .int .i64 0, .int .i64 0, .int .u8 r.kind, .int .i64 0, .int .i64 r.page, .int .i64 0, .int .i64 0, .int .i64 0, .int .i64 0, .string r.data,
    .slice Option.none 0 0, .slice Option.none 0 0, .slice r.ia r.il r.ic, .slice Option.none 0 0, .slice Option.none 0 0]
def Br.cl (r : Br) : List Value := r.cells.toList
theorem Tryz.sizeRecB : (Tryz.prog.info? 36).map (·.size) = some 16 := by kernel_rfl
theorem Tryz.sizePageB : (Tryz.prog.info? 24).map (·.size) = some 6 := by kernel_rfl
theorem Tryz.sizeImgB : (Tryz.prog.info? 85).map (·.size) = some 7 := by kernel_rfl
/-- What was written over. -/
structure StR (w W : World) (b o : Nat) (ds : List Value) : Prop where
  eq : W = w.setCells b o ds
  only : Only (fun k => k = b) w W
  at_ : Rg W b o ds
section
variable {ops : Array Oper} {rest : List Oper} {o : Oper} {a : Act} {w : World} {Q : Exit → Act → World → Prop}
theorem wpList_put_br (hg : o.guard = none) (x y : Operand) (hop : o.op = .store 36 x y) (b : Nat) (hx : a.eval x = .pointer (some ⟨b, 0, none⟩)) (cs : List Value) (hl : cs.length = 16) (r : Br) (hy : a.eval y = .agg r.cells) (hc : Rg w b 0 cs)
    (h : ∀ W, Hid (StR w W b 0 r.cl) → wpList Tryz.prog ops Q rest (a.put o.dst undef) W) : wpList Tryz.prog ops Q (o :: rest) a w :=
  wpList_store_mid hg 36 x y hop b 0 r.cells hx hy (by have := hc.there; rwa [hl] at this) Tryz.sizeRecB (by simp [Value.oneCell']) (h _ ⟨rfl, only_setCells _ _ _ _, hc.set _ (by rw [hl]; rfl)⟩)
theorem wpList_load_br (hg : o.guard = none) (x : Operand) (hop : o.op = .load 36 x) (b : Nat) (hx : a.eval x = .pointer (some ⟨b, 0, none⟩)) (r : Br) (hc : Rg w b 0 r.cl)
    (h : wpList Tryz.prog ops Q rest (a.put o.dst (.agg r.cells)) w) : wpList Tryz.prog ops Q (o :: rest) a w :=
  wpList_load_mid hg 36 x hop b 0 hx r.cl _ hc.range Tryz.underlying36 rfl Tryz.sizeRecB h
theorem wpList_put_pg (hg : o.guard = none) (x y : Operand) (hop : o.op = .store 24 x y) (b p : Nat) (hx : a.eval x = .pointer (some ⟨b, p, none⟩)) (cs : List Value) (hl : cs.length = 6) (ds : Array Value) (hd : ds.size = 6) (ho : ds.all Value.oneCell' = true) (hy : a.eval y = .agg ds) (hc : Rg w b p cs)
    (h : ∀ W, Hid (StR w W b p ds.toList) → wpList Tryz.prog ops Q rest (a.put o.dst undef) W) : wpList Tryz.prog ops Q (o :: rest) a w :=
  wpList_store_mid hg 24 x y hop b p ds hx hy (by have := hc.there; rw [hl] at this; rw [hd]; exact this) (by rw [hd]; exact Tryz.sizePageB) ho (h _ ⟨rfl, only_setCells _ _ _ _, hc.set _ (by rw [hl]; simpa using hd)⟩)
theorem wpList_load_pg (hg : o.guard = none) (x : Operand) (hop : o.op = .load 24 x) (b p : Nat) (hx : a.eval x = .pointer (some ⟨b, p, none⟩)) (ds : Array Value) (hd : ds.size = 6) (hc : Rg w b p ds.toList)
    (h : wpList Tryz.prog ops Q rest (a.put o.dst (.agg ds)) w) : wpList Tryz.prog ops Q (o :: rest) a w :=
  wpList_load_mid hg 24 x hop b p hx ds.toList _ hc.range Tryz.underlying24 rfl (by simpa [hd] using Tryz.sizePageB) h
end
theorem run_build_bnone (w : World) : (Instr.build 36 #[]).run Tryz.prog w = .ok (.agg Br.none.cells) w := run_build w 36 #[] _ (by kernel_rfl)
theorem run_build_in (w : World) (p : Int) (d : ByteArray) : (Instr.build 36 #[(3, .int .u8 3), (5, .int .i64 p), (10, .string d)]).run Tryz.prog w = .ok (.agg (Br.cells ⟨3, p, d, Option.none, 0, 0⟩)) w := run_build w 36 _ _ (by kernel_rfl)
theorem run_build_out (w : World) (p : Int) (d : ByteArray) : (Instr.build 36 #[(3, .int .u8 4), (5, .int .i64 p), (10, .string d)]).run Tryz.prog w = .ok (.agg (Br.cells ⟨4, p, d, Option.none, 0, 0⟩)) w := run_build w 36 _ _ (by kernel_rfl)
theorem run_build_split (w : World) (ia : Option Addr) (il ic : Nat) : (Instr.build 36 #[(3, .int .u8 5), (13, .slice ia il ic)]).run Tryz.prog w = .ok (.agg (Br.cells ⟨5, 0, ⟨#[]⟩, ia, il, ic⟩)) w := run_build w 36 _ _ (by kernel_rfl)
section
variable {ops : Array Oper} {rest : List Oper} {o : Oper} {a : Act} {w : World} {Q : Exit → Act → World → Prop}
theorem wpList_build_bnone (hg : o.guard = none) (hop : o.op = .build 36 #[]) (h : wpList Tryz.prog ops Q rest (a.put o.dst (.agg Br.none.cells)) w) : wpList Tryz.prog ops Q (o :: rest) a w := by
  refine wpList_plain hg fun K hK => ?_
  unfold Oper.wp execOp
  simp only [hop, Array.map_empty, Sem.run_bind, Sem.run_pure, Result.andThen_ok, run_build_bnone]
  exact hK _ _ h
theorem wpList_build_in (hg : o.guard = none) (a5 a10 : Operand) (hop : o.op = .build 36 #[(3, .const (.int .u8 3)), (5, a5), (10, a10)]) (p : Int) (d : ByteArray) (h5 : a.eval a5 = .int .i64 p) (h10 : a.eval a10 = .string d)
    (h : wpList Tryz.prog ops Q rest (a.put o.dst (.agg (Br.cells ⟨3, p, d, Option.none, 0, 0⟩))) w) : wpList Tryz.prog ops Q (o :: rest) a w := by
  refine wpList_plain hg fun K hK => ?_
  unfold Oper.wp execOp
  have e : (#[(3, Operand.const (.int .u8 3)), (5, a5), (10, a10)] : Array (Nat × Operand)).map (fun x => (x.1, a.eval x.2)) = #[(3, .int .u8 3), (5, .int .i64 p), (10, .string d)] := by
    simp only [List.map_toArray, List.map_cons, List.map_nil, h5, h10]
    rfl
  simp only [hop, e, Sem.run_bind, Sem.run_pure, Result.andThen_ok, run_build_in]
  exact hK _ _ h
theorem wpList_build_out (hg : o.guard = none) (a5 a10 : Operand) (hop : o.op = .build 36 #[(3, .const (.int .u8 4)), (5, a5), (10, a10)]) (p : Int) (d : ByteArray) (h5 : a.eval a5 = .int .i64 p) (h10 : a.eval a10 = .string d)
    (h : wpList Tryz.prog ops Q rest (a.put o.dst (.agg (Br.cells ⟨4, p, d, Option.none, 0, 0⟩))) w) : wpList Tryz.prog ops Q (o :: rest) a w := by
  refine wpList_plain hg fun K hK => ?_
  unfold Oper.wp execOp
  have e : (#[(3, Operand.const (.int .u8 4)), (5, a5), (10, a10)] : Array (Nat × Operand)).map (fun x => (x.1, a.eval x.2)) = #[(3, .int .u8 4), (5, .int .i64 p), (10, .string d)] := by
    simp only [List.map_toArray, List.map_cons, List.map_nil, h5, h10]
    rfl
  simp only [hop, e, Sem.run_bind, Sem.run_pure, Result.andThen_ok, run_build_out]
  exact hK _ _ h
theorem wpList_build_split (hg : o.guard = none) (a13 : Operand) (hop : o.op = .build 36 #[(3, .const (.int .u8 5)), (13, a13)]) (ia : Option Addr) (il ic : Nat) (h13 : a.eval a13 = .slice ia il ic)
    (h : wpList Tryz.prog ops Q rest (a.put o.dst (.agg (Br.cells ⟨5, 0, ⟨#[]⟩, ia, il, ic⟩))) w) : wpList Tryz.prog ops Q (o :: rest) a w := by
  refine wpList_plain hg fun K hK => ?_
  unfold Oper.wp execOp
  have e : (#[(3, Operand.const (.int .u8 5)), (13, a13)] : Array (Nat × Operand)).map (fun x => (x.1, a.eval x.2)) = #[(3, .int .u8 5), (13, .slice ia il ic)] := by
    simp only [List.map_toArray, List.map_cons, List.map_nil, h13]
    rfl
  simp only [hop, e, Sem.run_bind, Sem.run_pure, Result.andThen_ok, run_build_split]
  exact hK _ _ h
end
theorem load_br {w : World} {b : Nat} {r : Br} (h : Rg w b 0 r.cl) : (loadVar 36 ⟨b, 0, none⟩).run Tryz.prog w = .ok (.agg r.cells) w :=
  run_loadVar_mid (P := Tryz.prog) w b 0 36 r.cl _ h.range Tryz.underlying36 rfl Tryz.sizeRecB
theorem results_br {fn : Func} {p u : Tmp} (h : fn.results = #[.cell p 36, .tmp u]) {tmps : Array Value} {w : World} {b : Nat} {r : Br} (hp : tmps.getD p undef = .pointer (some ⟨b, 0, none⟩)) (hP : Rg w b 0 r.cl) :
    (results fn tmps).run Tryz.prog w = .ok (.tuple #[.agg r.cells, tmps.getD u undef]) w := by
  have e : (asAddr (.pointer (some ⟨b, 0, none⟩))).run Tryz.prog w = .ok ⟨b, 0, none⟩ w := rfl
  rw [results_cell_tmp h, hp, e]
  simp only [Result.andThen, load_br hP]
end Go.Proofs.YthjjkhacniebiaaGreat

namespace Go.Proofs.YthjjkhacniebiaaGreat
open Go.RowKit

/-- What Remove answers of a leaf. -/
structure RemQ (w w' : World) (x : Ending) (a r : Int) (h : ByteArray) (e : En) (l : List ByteArray) (es : List En) : Prop where
  bad : e ∉ es → Res w w' x .none 140
  good : e ∈ es → Res w w' x ⟨a, 3, 0, r, h, l.take (plE es e) ++ l.drop (plE es e + 1)⟩ 0
theorem pl_mem {es : List En} {e : En} (hr : Rise es) (h : e ∈ es) : plE es e < es.length := by
  obtain ⟨k, hk, rfl⟩ := List.mem_iff_getElem.1 h
  rw [plE_at hr k hk]
  exact hk
set_option maxRecDepth 100000 in
set_option maxHeartbeats 3200000 in
theorem remove_ok (w : World) (a r : Int) (h : ByteArray) (hi e : En) (B cp : Nat) (ao : Option Addr) (l : List ByteArray) (es : List En) (hP : Lp w r h hi B ao l es) (hF : Fit ao l.length cp) :
    Calls Tryz.prog 79 #[.agg #[.int .i64 a, .int .i64 3, .int .i64 0, .int .i64 r, .string h, .slice ao l.length cp], e.agg] w fun x w' => RemQ w w' x a r h e l es := by
  have HX := hide (ins_new w (.int .i64 a) (.int .i64 3) (.int .i64 0) (.int .i64 r) (.string h) (.slice ao l.length cp) e)
  have HR := hide ((hP.more HX.out.2.2.2).read a cp)
  have HIX : Hid (∀ (W : World) (A1 : Option Addr) (n1 C1 : Nat) (base : Nat), Ets W base (.slice A1 n1 C1) es → Calls Tryz.prog 48 #[.slice A1 n1 C1, .agg #[.string e.key, .int .i64 e.page, .int .i64 e.slot]] W fun x w' => x = .returned (.int .i64 (idxE es e)) ∧ Only (fun _ => False) W w') := fun W A1 n1 C1 base hE => by
    obtain ⟨B1, hels, hln⟩ := hE.elsOf
    exact indexE_any W B1 n1 C1 A1 es e hels hln (by have := hP.len; omega) hP.lf.rise
  have HPT : Hid (e ∈ es → ∀ W, Only (fun _ => False) w W → Calls Tryz.prog 112 #[.agg #[.int .i64 a, .int .i64 3, .int .i64 0, .int .i64 r, .string h, .slice ao l.length cp], .int .i64 (plE es e : Int)] W fun x w' => Res W w' x ⟨a, 3, 0, r, h, l.take (plE es e) ++ l.drop (plE es e + 1)⟩ 0) := fun he W ho => by
    have h1 := pl_mem hP.lf.rise he
    have h2 := hP.lf.len
    have hs := hP.strs.more ho
    obtain ⟨o, rfl, _⟩ := hs.at_ (by omega)
    exact out_some W a 3 0 r h B B o cp l (plE es e) hs hF (by omega)
  clear hP hF
  unfold En.agg
  go_enter Tryz.func79, Tryz.ntmps79
  go_upto_region 1 with fail
  obtain ⟨W0, hW0⟩ : ∃ x, ((w.alloc (.cells #[.int .i64 a, .int .i64 3, .int .i64 0, .int .i64 r, .string h, .slice ao l.length cp] 24)).alloc (.cells #[.string e.key, .int .i64 e.page, .int .i64 e.slot] 41)).alloc (.cells #[.int .i64 0, .int .i64 0, .int .i64 0, .int .i64 0, .string ⟨#[]⟩, .slice none 0 0] 24) = x := ⟨_, rfl⟩
  rw [hW0] at HX HR ⊢
  clear hW0
  obtain ⟨p0, p1, p2, p3, p4, p5, _⟩ := HX.out.1
  go_wp2_with fail
  refine HR.out.mono ?_
  rintro x w1 ⟨A, C, rfl, he, ho⟩
  unfold cvv
  have HP1 := hide (HX.out.1.more ho)
  have HV1 := hide (HX.out.2.1.more ho)
  have HQ1 := hide (HX.out.2.2.1.more ho)
  have HO1 := hide (o2 HX.out.2.2.2 ho)
  have HE1 := hide he
  clear he ho p0 p1 p2 p3 p4 p5 HR HX
  go_upto_region 2 with fail
  have HA := hide (onlyA w1 (.cells #[.slice A es.length C, .slice none 0 0, .string hi.key, .int .i64 hi.page, .int .i64 hi.slot] 107))
  have HC := hide (Cv.new w1 (.slice A es.length C) (.slice none 0 0) hi)
  obtain ⟨cb, hcb⟩ : ∃ b, w1.heap.size = b := ⟨_, rfl⟩
  rw [hcb] at HC ⊢
  clear hcb
  obtain ⟨w2, hw2⟩ : ∃ x, w1.alloc (.cells #[.slice A es.length C, .slice none 0 0, .string hi.key, .int .i64 hi.page, .int .i64 hi.slot] 107) = x := ⟨_, rfl⟩
  rw [hw2] at HA HC ⊢
  clear hw2
  have HP2 := hide (HP1.out.more HA.out)
  have HV2 := hide (HV1.out.more HA.out)
  have HQ2 := hide (HQ1.out.more HA.out)
  have HO2 := hide (o2 HO1.out HA.out)
  have HE2 := hide (HE1.out.more HA.out)
  clear HA HP1 HV1 HQ1 HO1 HE1
  obtain ⟨d0, d1, d2, _⟩ := HV2.out
  have c0 := HC.out.c0
  have HIX1 := hide (HIX.out w2 A es.length C _ HE2.out)
  obtain ⟨I, hI⟩ : ∃ I, idxE es e = I := ⟨_, rfl⟩
  rw [hI] at HIX1
  have HI := hide hI
  clear HIX hI
  go_wp2_with fail
  refine HIX1.out.mono ?_
  rintro x w3 ⟨rfl, ho⟩
  have HP3 := hide (HP2.out.more ho)
  have HQ3 := hide (HQ2.out.more ho)
  have HO3 := hide (o2 HO2.out ho)
  clear ho d0 d1 d2 c0 HP2 HV2 HQ2 HC HO2 HE2 HIX1
  by_cases hm : e ∈ es
  · have hI : I = (plE es e : Int) := by rw [← HI.out]; unfold idxE; rw [if_pos hm]
    have HPT0 := hide (HPT.out hm)
    rw [← hI] at HPT0
    have hI0 : ¬ I < 0 := by omega
    have HM := hide hm
    clear hI hm HPT HI
    obtain ⟨p0, p1, p2, p3, p4, p5, _⟩ := HP3.out
    go_wp2_with fail
    refine (HPT0.out _ HO3.out).mono ?_
    rintro x w4 ⟨B5, ao5, cp5, rfl, hS5, hF5, ho5, hB5⟩
    have HX2 := hide ho5
    have HS7 := hide (And.intro hS5 (And.intro hF5 hB5))
    have HQ7 := hide (HQ3.out.more ho5)
    have HZ7 : Hid (w.heap.size + 1 + 1 < w3.heap.size) := HQ3.out.lt
    clear hS5 hF5 ho5 hB5 p0 p1 p2 p3 p4 p5
    obtain ⟨nl, hnl⟩ : ∃ nl, l.take (plE es e) ++ l.drop (plE es e + 1) = nl := ⟨_, rfl⟩
    rw [hnl] at HS7 ⊢
    have HNL := hide hnl
    clear hnl
    simp only [] at HS7
    obtain ⟨q0, q1, q2, q3, q4, q5, g0, g1, g2, g3, g4, g5, ql⟩ := HQ7.out
    go_wp2_with fail
    refine bodyPost_ret (results_page rfl rfl (Pag.six HQ7.out _ _ _ _ _ _)) rfl ?_
    have hres := resSix (p := ⟨a, 3, 0, r, h, nl⟩) (k := 0) HS7.out.1 HS7.out.2.1 HX2.out HS7.out.2.2 HO3.out (w.heap.size + 1 + 1) (by omega) HZ7.out (.int .i64 a) (.int .i64 3) (.int .i64 0) (.int .i64 r) (.string h) (.slice ao5 nl.length cp5)
    exact ⟨fun h1 => absurd HM.out h1, fun _ => by rw [HNL.out]; exact hres⟩
  · have hI : I = -1 := by rw [← HI.out]; unfold idxE; rw [if_neg hm]
    have hI0 : I < 0 := by omega
    have HM := hide hm
    clear hI hm HPT HI
    obtain ⟨q0, q1, q2, q3, q4, q5, g0, g1, g2, g3, g4, g5, ql⟩ := HQ3.out
    go_wp2_with fail
    refine bodyPost_ret (results_page rfl rfl (Pag.six HQ3.out _ _ _ _ _ _)) rfl ?_
    exact ⟨fun _ => resErr _ HO3.out (by omega), fun h1 => absurd h1 HM.out⟩
theorem results_page1 {fn : Func} {p : Tmp} (h : fn.results = #[.cell p 24]) {tmps : Array Value} {w : World} {b : Nat} {v0 v1 v2 v3 v4 v5 : Value} (hp : tmps.getD p undef = .pointer (some ⟨b, 0, none⟩)) (hP : Pag w b v0 v1 v2 v3 v4 v5) :
    (results fn tmps).run Tryz.prog w = .ok (.agg #[v0, v1, v2, v3, v4, v5]) w := by
  have e : (asAddr (.pointer (some ⟨b, 0, none⟩))).run Tryz.prog w = .ok ⟨b, 0, none⟩ w := rfl
  have hp' : tmps[p]?.getD undef = .pointer (some ⟨b, 0, none⟩) := by simpa using hp
  simp only [results, h]
  simp [Sem.run_bind, Result.andThen, hp', e, load_page hP]
theorem leaf_any (w : World) : Calls Tryz.prog 15 #[] w fun x w' => x = .returned (.agg #[.int .i64 0, .int .i64 3, .int .i64 0, .int .i64 0, .string ⟨#[]⟩, .slice none 0 0]) ∧ Only (fun _ => False) w w' := by
  have HP := hide (Pag.new w (.int .i64 0) (.int .i64 3) (.int .i64 0) (.int .i64 0) (.string ⟨#[]⟩) (.slice none 0 0))
  have HO := hide (onlyA w (.cells #[.int .i64 0, .int .i64 3, .int .i64 0, .int .i64 0, .string ⟨#[]⟩, .slice none 0 0] 24))
  go_enter Tryz.func15, Tryz.ntmps15
  go_wp2_with fail
  refine bodyPost_ret (results_page1 rfl rfl HP.out) rfl ?_
  exact ⟨rfl, HO.out⟩
end Go.Proofs.YthjjkhacniebiaaGreat
