/- Parts. -/
import Derived.Test.YtajjakljheafjaaGreatK18
import Derived.Deep.MidRow
import Derived.Laws.Tables
import Derived.Test.YtajjakljheafjaaGreatK16
set_option maxRecDepth 100000

namespace Go.Proofs.YtajjakljheafjaaGreat
open Go.RowKit
theorem id16 {x : Int} (h1 : 1 ≤ x) (h2 : x ≤ 16) : Idd 16 x := ⟨⟨by omega, by omega, by decide⟩, h1, h2⟩
/-- Cells that lie in block b from o on, and may be written. -/
structure Rg (w : World) (b o : Nat) (cs : List Value) : Prop where
  range : w.rangeAt b o cs
  there : w.there b o cs.length
  lt : b < w.heap.size
theorem only_setCells (b : Nat) (vs : List Value) (o : Nat) (w : World) : Only (fun k => k = b) w (w.setCells b o vs) := by
  induction vs generalizing o w with
  | nil => exact Only.refl _ _
  | cons v r ih =>
    rw [World.setCells]
    exact (Only.setCell (S := fun k => k = b) w ⟨b, o, none⟩ v rfl).trans (ih (o + 1) _) (fun _ _ h => h)
theorem setCells_size (b : Nat) (vs : List Value) (o : Nat) (w : World) : (w.setCells b o vs).heap.size = w.heap.size := by
  induction vs generalizing o w with
  | nil => rfl
  | cons v r ih => rw [World.setCells, ih]; simp
theorem setCells_frozen (b : Nat) (vs : List Value) (o : Nat) (w : World) (p : Addr) : (w.setCells b o vs).frozen? p = w.frozen? p := by
  induction vs generalizing o w with
  | nil => rfl
  | cons v r ih => rw [World.setCells, ih]; simp
theorem setCells_apart (b : Nat) (vs : List Value) (o : Nat) (w : World) (j : Nat) (h : j < o ∨ o + vs.length ≤ j) : (w.setCells b o vs).cell? ⟨b, j, none⟩ = w.cell? ⟨b, j, none⟩ := by
  induction vs generalizing o w with
  | nil => rfl
  | cons v r ih =>
    rw [World.setCells, ih (o + 1) _ (by simp at h; omega)]
    exact World.cell?_setCell_other w ⟨b, o, none⟩ ⟨b, j, none⟩ v (by intro q; injection q with _ q2; rw [List.length_cons] at h; omega)
/-- A part of a range. -/
theorem Rg.part {w : World} {b o : Nat} {c1 c2 c3 : List Value} (h : Rg w b o (c1 ++ c2 ++ c3)) : Rg w b (o + c1.length) c2 := by
  refine ⟨fun j v hv => ?_, fun j hj => ?_, h.lt⟩
  · have hj : j < c2.length := (List.getElem?_eq_some_iff.1 hv).1
    have := h.range (c1.length + j) v (by rw [List.append_assoc, List.getElem?_append_right (by omega), Nat.add_sub_cancel_left, List.getElem?_append_left hj]; exact hv)
    rwa [← Nat.add_assoc] at this
  · have := h.there (c1.length + j) (by simp only [List.length_append]; omega)
    rwa [← Nat.add_assoc] at this
theorem Rg.set {w : World} {b o : Nat} {cs : List Value} (h : Rg w b o cs) (ds : List Value) (hl : ds.length = cs.length) : Rg (w.setCells b o ds) b o ds := by
  have hr := World.rangeAt_setCells_same w b o ds (by rw [hl]; exact h.there)
  refine ⟨hr, fun j hj => ?_, by rw [setCells_size]; exact h.lt⟩
  exact ⟨by rw [hr j _ (List.getElem?_eq_getElem hj)]; rfl, by rw [setCells_frozen]; exact (h.there j (by omega)).2⟩
/-- A part of a range is written over. -/
theorem Rg.put {w : World} {b o : Nat} {c1 c2 c3 : List Value} (h : Rg w b o (c1 ++ c2 ++ c3)) (ds : List Value) (hl : ds.length = c2.length) : Rg (w.setCells b (o + c1.length) ds) b o (c1 ++ ds ++ c3) := by
  have hp := h.part.set ds hl
  refine ⟨fun j v hv => ?_, fun j hj => ?_, by rw [setCells_size]; exact h.lt⟩
  · by_cases k : j < c1.length
    · rw [setCells_apart _ _ _ _ _ (by omega)]
      refine h.range j v ?_
      rw [List.append_assoc, List.getElem?_append_left k] at hv ⊢
      exact hv
    · by_cases k2 : j < c1.length + c2.length
      · rw [List.append_assoc, List.getElem?_append_right (by omega), List.getElem?_append_left (by omega)] at hv
        have := hp.range (j - c1.length) v hv
        rwa [Nat.add_assoc, Nat.add_sub_cancel' (by omega)] at this
      · rw [setCells_apart _ _ _ _ _ (by omega)]
        refine h.range j v ?_
        rw [List.append_assoc, List.getElem?_append_right (by omega), List.getElem?_append_right (by omega)] at hv ⊢
        rw [← hl]
        exact hv
  · have hj' : j < (c1 ++ c2 ++ c3).length := by simp only [List.length_append] at hj ⊢; omega
    refine ⟨?_, by rw [setCells_frozen]; exact (h.there j hj').2⟩
    by_cases k2 : j < c1.length ∨ c1.length + ds.length ≤ j
    · rw [setCells_apart _ _ _ _ _ (by omega)]
      exact (h.there j hj').1
    · have := (hp.there (j - c1.length) (by omega)).1
      rwa [Nat.add_assoc, Nat.add_sub_cancel' (by omega)] at this
theorem Tryz.sizePageB : (Tryz.prog.info? 37).map (·.size) = some 6 := by kernel_rfl
section
variable {ops : Array Oper} {rest : List Oper} {o : Oper} {a : Act} {w : World} {Q : Exit → Act → World → Prop}
end
section
variable {ops : Array Oper} {rest : List Oper} {o : Oper} {a : Act} {w : World} {Q : Exit → Act → World → Prop}
end
/-- A record of an Insert or a Mark. -/
structure Hr where
  kind : Int
  xid : Int
  page : Int
  slot : Int
  old : Int
  new : Int
  data : ByteArray
abbrev Hr.none : Hr := ⟨0, 0, 0, 0, 0, 0, ⟨#[]⟩⟩
abbrev Hr.cells (r : Hr) : Array Value :=
  #[.int .i64 0, .int .i64 0, .int .i64 0, .int .u8 r.kind, .int .i64 r.xid, .int .i64 r.page, .int .i64 r.slot, .int .i64 r.old, .int .i64 r.new, .int .i64 0, .string r.data,
    .slice Option.none 0 0, .slice Option.none 0 0, .slice Option.none 0 0, .slice Option.none 0 0, .slice Option.none 0 0]
/-- A record's cells as a list. -/
def Hr.cl (r : Hr) : List Value := r.cells.toList
theorem Tryz.sizeRecH : (Tryz.prog.info? 50).map (·.size) = some 16 := by kernel_rfl
theorem only_setCellsH (b : Nat) (vs : List Value) (o : Nat) (w : World) : Only (fun k => k = b) w (w.setCells b o vs) := by
  induction vs generalizing o w with
  | nil => exact Only.refl _ _
  | cons v r ih =>
    rw [World.setCells]
    exact (Only.setCell (S := fun k => k = b) w ⟨b, o, none⟩ v rfl).trans (ih (o + 1) _) (fun _ _ h => h)
/-- A record's block: its cells, and that they may be written. -/
structure Hb (w : World) (b : Nat) (r : Hr) : Prop where
  range : w.rangeAt b 0 r.cl
  there : w.there b 0 16
  lt : b < w.heap.size
theorem Hb.new (w : World) (r : Hr) : Hb (w.alloc (.cells r.cells 50)) w.heap.size r :=
  ⟨fun j v hv => by rw [Nat.zero_add]; simpa [Hr.cl] using hv, fun j hj => by rw [Nat.zero_add]; exact ⟨by simpa using hj, by simp⟩, by simp⟩
theorem Hb.kept {S : Nat → Prop} {w w' : World} {b : Nat} {r : Hr} (h : Hb w b r) (ho : Only S w w') (hS : ¬ S b) : Hb w' b r :=
  ⟨fun j v hv => (ho.cell (p := ⟨b, 0 + j, none⟩) h.lt hS).trans (h.range j v hv), fun j hj => by
    obtain ⟨h1, h2⟩ := h.there j hj
    exact ⟨by rw [ho.cell (p := ⟨b, 0 + j, none⟩) h.lt hS]; exact h1, by rw [ho.frozen (p := ⟨b, 0 + j, none⟩) h.lt hS]; exact h2⟩, Nat.lt_of_lt_of_le h.lt ho.size⟩
theorem Hb.more {w w' : World} {b : Nat} {r : Hr} (h : Hb w b r) (ho : Only (fun _ => False) w w') : Hb w' b r := h.kept ho (fun h => h)
theorem Hb.load {w : World} {b : Nat} {r : Hr} (h : Hb w b r) : (loadVar 50 ⟨b, 0, none⟩).run Tryz.prog w = .ok (.agg r.cells) w :=
  run_loadVar_mid (P := Tryz.prog) w b 0 50 r.cl _ h.range Tryz.underlying50 rfl Tryz.sizeRecH
theorem Hb.set {w : World} {b : Nat} {q : Hr} (h : Hb w b q) (r : Hr) : Hb (w.setCells b 0 r.cl) b r ∧ Only (fun k => k = b) w (w.setCells b 0 r.cl) := by
  have hr := World.rangeAt_setCells_same w b 0 r.cl (h.there)
  have hs : (w.setCells b 0 r.cl).heap.size = w.heap.size := by
    have go : ∀ (vs : List Value) (o : Nat) (w : World), (w.setCells b o vs).heap.size = w.heap.size := by
      intro vs
      induction vs with
      | nil => intro o w; rfl
      | cons v r ih => intro o w; rw [World.setCells, ih]; simp
    exact go _ _ _
  have hf : ∀ (vs : List Value) (o : Nat) (w : World) (p : Addr), (w.setCells b o vs).frozen? p = w.frozen? p := by
    intro vs
    induction vs with
    | nil => intro o w p; rfl
    | cons v r ih => intro o w p; rw [World.setCells, ih]; simp
  refine ⟨⟨hr, fun j hj => ?_, by rw [hs]; exact h.lt⟩, only_setCellsH _ _ _ _⟩
  have hj' : j < r.cl.length := hj
  exact ⟨by rw [hr j _ (List.getElem?_eq_getElem hj')]; rfl, by rw [hf]; exact (h.there j hj).2⟩
/-- A record was stored into block b. -/
structure StoH (w W : World) (b : Nat) (r : Hr) : Prop where
  only : Only (fun k => k = b) w W
  at_ : Hb W b r
section
variable {ops : Array Oper} {rest : List Oper} {o : Oper} {a : Act} {w : World} {Q : Exit → Act → World → Prop}
theorem wpList_put_hr (hg : o.guard = none) (x y : Operand) (hop : o.op = .store 50 x y) (b : Nat) (hx : a.eval x = .pointer (some ⟨b, 0, none⟩)) (q r : Hr) (hy : a.eval y = .agg r.cells) (hc : Hb w b q)
    (h : ∀ W, Hid (StoH w W b r) → wpList Tryz.prog ops Q rest (a.put o.dst undef) W) : wpList Tryz.prog ops Q (o :: rest) a w :=
  wpList_store_mid hg 50 x y hop b 0 r.cells hx hy hc.there Tryz.sizeRecH (by simp [Value.oneCell']) (h _ ⟨(hc.set r).2, (hc.set r).1⟩)
end
theorem run_build_hnone (w : World) : (Instr.build 50 #[]).run Tryz.prog w = .ok (.agg Hr.none.cells) w := run_build w 50 #[] _ (by kernel_rfl)
section
variable {ops : Array Oper} {rest : List Oper} {o : Oper} {a : Act} {w : World} {Q : Exit → Act → World → Prop}
theorem wpList_build_hnone (hg : o.guard = none) (hop : o.op = .build 50 #[]) (h : wpList Tryz.prog ops Q rest (a.put o.dst (.agg Hr.none.cells)) w) : wpList Tryz.prog ops Q (o :: rest) a w := by
  refine wpList_plain hg fun K hK => ?_
  unfold Oper.wp execOp
  simp only [hop, Array.map_empty, Sem.run_bind, Sem.run_pure, Result.andThen_ok, run_build_hnone]
  exact hK _ _ h
end
theorem run_build_mark (w : World) (x p s o n : Int) : (Instr.build 50 #[(3, .int .u8 2), (4, .int .i64 x), (5, .int .i64 p), (6, .int .i64 s), (7, .int .i64 o), (8, .int .i64 n)]).run Tryz.prog w = .ok (.agg (Hr.cells ⟨2, x, p, s, o, n, ⟨#[]⟩⟩)) w := run_build w 50 _ _ (by kernel_rfl)
section
variable {ops : Array Oper} {rest : List Oper} {o : Oper} {a : Act} {w : World} {Q : Exit → Act → World → Prop}
theorem wpList_build_mark (hg : o.guard = none) (a4 a5 a6 a7 a8 : Operand) (hop : o.op = .build 50 #[(3, .const (.int .u8 2)), (4, a4), (5, a5), (6, a6), (7, a7), (8, a8)]) (x p s u n : Int) (h4 : a.eval a4 = .int .i64 x) (h5 : a.eval a5 = .int .i64 p) (h6 : a.eval a6 = .int .i64 s) (h7 : a.eval a7 = .int .i64 u) (h8 : a.eval a8 = .int .i64 n)
    (h : wpList Tryz.prog ops Q rest (a.put o.dst (.agg (Hr.cells ⟨2, x, p, s, u, n, ⟨#[]⟩⟩))) w) : wpList Tryz.prog ops Q (o :: rest) a w := by
  refine wpList_plain hg fun K hK => ?_
  unfold Oper.wp execOp
  have e : (#[(3, Operand.const (.int .u8 2)), (4, a4), (5, a5), (6, a6), (7, a7), (8, a8)] : Array (Nat × Operand)).map (fun x => (x.1, a.eval x.2)) = #[(3, .int .u8 2), (4, .int .i64 x), (5, .int .i64 p), (6, .int .i64 s), (7, .int .i64 u), (8, .int .i64 n)] := by
    simp only [List.map_toArray, List.map_cons, List.map_nil, h4, h5, h6, h7, h8]
    rfl
  simp only [hop, e, Sem.run_bind, Sem.run_pure, Result.andThen_ok, run_build_mark]
  exact hK _ _ h
end
theorem results_hr {fn : Func} {p u : Tmp} (h : fn.results = #[.cell p 50, .tmp u]) {tmps : Array Value} {w : World} {b : Nat} {r : Hr} (hp : tmps.getD p undef = .pointer (some ⟨b, 0, none⟩)) (hP : Hb w b r) :
    (results fn tmps).run Tryz.prog w = .ok (.tuple #[.agg r.cells, tmps.getD u undef]) w := by
  have e : (asAddr (.pointer (some ⟨b, 0, none⟩))).run Tryz.prog w = .ok ⟨b, 0, none⟩ w := rfl
  rw [results_cell_tmp h, hp, e]
  simp only [Result.andThen, hP.load]
/-- A page as a value. -/
abbrev pv (a k v r : Int) (h : ByteArray) (ao : Option Addr) (n cp : Nat) : Value := .agg #[.int .i64 a, .int .i64 k, .int .i64 v, .int .i64 r, .string h, .slice ao n cp]
theorem isHeap_any (w : World) (a k v r : Int) (h : ByteArray) (ao : Option Addr) (n cp : Nat) :
    Calls Tryz.prog 105 #[pv a k v r h ao n cp] w fun e w' => e = .returned (.bool (k == 2)) ∧ Only (fun _ => False) w w' := by
  go_enter Tryz.func105, Tryz.ntmps105
  go_wp2
  go_ret
  exact ⟨rfl, onlyA _ _⟩
theorem tooLong_many (w : World) (a k v r : Int) (h : ByteArray) (ao : Option Addr) (n cp : Nat) (hn : (255 : Int) < (n : Int)) :
    Calls Tryz.prog 121 #[pv a k v r h ao n cp] w fun e w' => e = .returned (.bool true) ∧ Only (fun _ => False) w w' := by
  go_enter Tryz.func121, Tryz.ntmps121
  go_wp2_with fail
  go_ret
  exact ⟨rfl, onlyA _ _⟩
set_option maxRecDepth 100000 in
set_option maxHeartbeats 800000 in
theorem pencode_many (w : World) (h : ByteArray) (ao : Option Addr) (n cp : Nat) (hn : (255 : Int) < (n : Int)) :
    Calls Tryz.prog 97 #[pv 0 2 0 0 h ao n cp] w fun e w' => e = .returned (.tuple #[.string ⟨#[]⟩, .int .i64 3]) ∧ Only (fun _ => False) w w' := by
  have HP := hide (Pag.new w (.int .i64 0) (.int .i64 2) (.int .i64 0) (.int .i64 0) (.string h) (.slice ao n cp))
  have HO0 := hide (onlyA w (.cells #[.int .i64 0, .int .i64 2, .int .i64 0, .int .i64 0, .string h, .slice ao n cp] 37))
  have HN := hide hn
  clear hn
  go_enter Tryz.func97, Tryz.ntmps97
  go_wp2_with fail
  refine (inRange_any _ 0 2 0 0 h cp n ao).mono ?_
  rintro e w1 ⟨rfl, ho1⟩
  obtain ⟨p0, p1, p2, p3, p4, p5, _⟩ := HP.out.more ho1
  have HO1 := hide (o2 HO0.out ho1)
  clear ho1
  rw [show decide ((0 : Int) ≤ 0 ∧ (1 : Int) ≤ 2 ∧ (2 : Int) ≤ 3 ∧ (0 : Int) ≤ 0 ∧ (0 : Int) ≤ 255 ∧ (0 : Int) ≤ 0 ∧ (0 : Int) ≤ 4294967295) = true from by decide]
  by_cases hh : (255 : Int) < (h.size : Int)
  · go_wp2_with fail
    go_ret2
    exact ⟨rfl, HO1.out⟩
  · go_wp2_with fail
    refine (tooLong_many _ 0 2 0 0 h ao n cp HN.out).mono ?_
    rintro e w2 ⟨rfl, ho2⟩
    have HO2 := hide (o2 HO1.out ho2)
    clear ho2 p0 p1 p2 p3 p4 p5
    go_wp2_with fail
    go_ret2
    exact ⟨rfl, HO2.out⟩
/-- What a new list can be asked, as a page of versions. -/
structure WithL (W : World) (h : ByteArray) (v : Value) (L : List ByteArray) (ao : Option Addr) (cp : Nat) : Prop where
  val : v = .slice ao L.length cp
  enc : ∀ W', Only (fun _ => False) W W' → Calls Tryz.prog 97 #[pv 0 2 0 0 h ao L.length cp] W' fun e w' => (∃ s, e = .returned (.tuple #[.string s, .int .i64 (if fitL h L then 0 else 3)])) ∧ Only (fun _ => False) W' w'
  size : fitL h L = true → ∀ W', Only (fun _ => False) W W' → Calls Tryz.prog 150 #[pv 0 2 0 0 h ao L.length cp] W' fun e w' => e = .returned (.int .i64 ((20 + h.size + isz L : Nat) : Int)) ∧ Only (fun _ => False) W' w'
theorem WithL.of {W : World} {base : Nat} {v : Value} {L : List ByteArray} (h : ByteArray) (hh : h.size ≤ 140737488355328) (hL : Ls W base v L) (hs : ∀ s ∈ L, s.size ≤ 140737488355328) : ∃ ao cp, WithL W h v L ao cp := by
  by_cases hn : L.length ≤ 255
  · obtain ⟨B, ao, cp, rfl, hS, hF, _, _⟩ := hL.strs (by omega) hs
    refine ⟨ao, cp, rfl, fun W' ho => ?_, fun hf W' ho => ?_⟩
    · refine (pencode_any W' 0 2 0 0 h B cp ao L (hS.more ho) hh (by omega)).mono ?_
      rintro e w' ⟨rfl, ho'⟩
      refine ⟨⟨str (Pg.out ⟨0, 2, 0, 0, h, L⟩).1, ?_⟩, ho'⟩
      have hr : Pg.inRange ⟨0, 2, 0, 0, h, L⟩ := by unfold Pg.inRange; simp
      have : (Pg.out ⟨0, 2, 0, 0, h, L⟩).2 = (if fitL h L then 0 else 3) := by
        cases hf : fitL h L
        · rw [out_long hr (fitL_no.1 hf)]; rfl
        · rw [out_ok hr (fitL_iff.1 hf)]; rfl
      rw [this]
    · refine (psize_any W' 0 2 0 0 h B cp ao L (hS.more ho) hh).mono ?_
      rintro e w' ⟨rfl, ho'⟩
      refine ⟨?_, ho'⟩
      rw [w64_few hs hh hn]
      push_cast
      rfl
  · have hv : ∃ ao cp, v = .slice ao L.length cp := by
      rcases hL.2 with ⟨rfl, h0⟩ | ⟨g, cap, cur, rfl, _⟩
      · exact absurd h0 (by omega)
      · exact ⟨_, _, rfl⟩
    obtain ⟨ao, cp, rfl⟩ := hv
    have hf : fitL h L = false := fitL_no.2 (by omega)
    refine ⟨ao, cp, rfl, fun W' ho => ?_, fun hf' => by rw [hf] at hf'; cases hf'⟩
    refine (pencode_many W' h ao L.length cp (by omega)).mono ?_
    rintro e w' ⟨rfl, ho'⟩
    rw [hf]
    exact ⟨⟨_, rfl⟩, ho'⟩
theorem putL_drop (l : List ByteArray) (i m : Nat) (s : ByteArray) (hi : i ≤ l.length) (hm : m = min (i + 1) l.length) : l.take i ++ [s] ++ l.drop m = putL l i s := by
  unfold putL
  rw [List.append_assoc, List.singleton_append]
  by_cases h : i < l.length
  · rw [show m = i + 1 by omega]
  · rw [List.drop_of_length_le (by omega), List.drop_of_length_le (by omega)]
theorem putL_mem {l : List ByteArray} {i : Nat} {s x : ByteArray} (h : x ∈ putL l i s) : x = s ∨ x ∈ l := by
  unfold putL at h
  rcases List.mem_append.1 h with h | h
  · exact .inr (List.mem_of_mem_take h)
  · rcases List.mem_cons.1 h with h | h
    · exact .inl h
    · exact .inr (List.mem_of_mem_drop h)
/-- The three parts put together. -/
theorem with_cat (W0 : World) (B cp : Nat) (ao A2 : Option Addr) (l : List ByteArray) (i m : Nat) (s : ByteArray) (hS : Strs W0 B ao l) (hF : Fit ao l.length cp) (hs : s.size ≤ 140737488355328) (hi : i ≤ l.length) (hm : m = min (i + 1) l.length)
    (hA : ∀ b o, ao = some ⟨b, o, none⟩ → m < l.length → A2 = some ⟨b, o + m, none⟩) (hA0 : A2 = none → ao = none) (W : World)
    (hW : W = (W0.alloc (.cells #[.string s] 9)).alloc (.cells #[.slice ao i cp, .slice (some ⟨W0.heap.size, 0, none⟩) 1 1, .slice A2 (l.length - m) (cp - m)] 35)) :
    Calls Tryz.prog 129 #[.slice (some ⟨W0.heap.size + 1, 0, none⟩) 3 3] W fun e w' => ∃ v, e = .returned v ∧ Ls w' W.heap.size v (putL l i s) ∧ Only (fun _ => False) W0 w' := by
  have hlen := hS.len
  have hcp := hF.le
  have hbig := hF.big
  have hS1 := (Strs.one W0 s hs).more (onlyA _ (.cells #[.slice ao i cp, .slice (some ⟨W0.heap.size, 0, none⟩) 1 1, .slice A2 (l.length - m) (cp - m)] 35))
  have ho : Only (fun _ => False) W0 W := by rw [hW]; exact o2 (onlyA _ _) (onlyA _ _)
  rw [← hW] at hS1
  have hS2 := hS.more ho
  have hz1 : (W0.alloc (.cells #[.string s] 9)).heap.size = W0.heap.size + 1 := by simp
  have hlt : W0.heap.size + 1 < W.heap.size := by rw [hW]; simp
  have hc : ∀ j (x : Value), #[Value.slice ao i cp, .slice (some ⟨W0.heap.size, 0, none⟩) 1 1, .slice A2 (l.length - m) (cp - m)][j]? = some x → W.cell? ⟨W0.heap.size + 1, j, none⟩ = some x := by
    intro j x hx
    rw [hW, ← hz1]
    simpa using hx
  have hSd : Strs W B A2 (l.drop m) := by
    by_cases h0 : m < l.length
    · obtain ⟨o, e, _⟩ := hS.at_ (by omega)
      rw [e] at hS2
      exact hS2.drop m A2 (fun hk => hA B o e hk)
    · rw [List.drop_of_length_le (by omega)]
      exact Strs.nil _ _ _
  have key := cat3 W (W0.heap.size + 1) ao (some ⟨W0.heap.size, 0, none⟩) A2 cp 1 (cp - m) B W0.heap.size B i 1 (l.length - m) (l.take i) [s] (l.drop m)
    (by simp; omega) rfl (by simp) (hc 0 _ rfl) (hc 1 _ rfl) (hc 2 _ rfl) (hS2.take i) hS1 hSd
    ⟨hF.nil, by omega, hbig⟩ ⟨(fun h => by cases h), by omega, (by unfold maxLen; omega)⟩ ⟨(fun h => by have := hF.nil (hA0 h); omega), by omega, by omega⟩ hlt (by omega)
  rw [putL_drop l i m s hi hm] at key
  refine Calls.mono key ?_
  rintro e w5 ⟨v5, rfl, hl5, ho5⟩
  exact ⟨v5, rfl, hl5, o2 ho ho5⟩
theorem cat_eqU (a : List UInt8) (s : ByteArray) : (⟨a.toArray⟩ : ByteArray) ++ s = ⟨(a ++ s.data.toList).toArray⟩ := by
  obtain ⟨⟨l⟩⟩ := s
  apply ByteArray.ext
  simp
end Go.Proofs.YtajjakljheafjaaGreat
