/- What apply's clean does. -/
import Derived.Test.YtphofhicehncgaaGreatK13
import Derived.Test.YtphofhicehncgaaGreatK09
import Derived.Deep.MidRow
import Derived.Laws.Tables
namespace Go.Proofs.YtphofhicehncgaaGreat
open Go.RowKit

set_option maxRecDepth 100000 in
set_option maxHeartbeats 800000 in
theorem hasSlot_any (w : World) (a k v r i : Int) (h : ByteArray) (cp n : Nat) (ao : Option Addr) :
    Calls Tryz.prog 38 #[.agg #[.int .i64 a, .int .i64 k, .int .i64 v, .int .i64 r, .string h, .slice ao n cp], .int .i64 i] w fun e w' => e = .returned (.bool (okS n i)) ∧ Only (fun _ => False) w w' := by
  have HO := hide (onlyA w (.cells #[.int .i64 a, .int .i64 k, .int .i64 v, .int .i64 r, .string h, .slice ao n cp] 25))
  by_cases h0 : 0 ≤ i
  · have e : okS n i = decide (i < (n : Int)) := by unfold okS; simp [h0]
    rw [e]
    clear e
    go_enter Tryz.func38, Tryz.ntmps38
    go_wp2_with fail
    go_ret
    exact ⟨rfl, HO.out⟩
  · have e : okS n i = false := by unfold okS; simp [h0]
    rw [e]
    clear e
    go_enter Tryz.func38, Tryz.ntmps38
    go_wp2_with fail
    go_ret
    exact ⟨rfl, HO.out⟩
set_option maxRecDepth 100000 in
set_option maxHeartbeats 800000 in
theorem apdead_any (t : Tu) (w : World) :
    Calls Tryz.prog 41 #[t.agg] w fun e w' => e = .returned (.tuple #[.string (cgD t).1, .int .i64 (cgD t).2]) ∧ Only (fun _ => False) w w' := by
  have HB := hide (Tb.new w t)
  have HO := hide (onlyA w (.cells #[.int .i64 t.xmin, .int .i64 t.xmax, .bool t.frozen, .string t.key, .string t.value] 53))
  have HD : Hid (∀ W, Calls Tryz.prog 73 #[.string t.key] W fun e w' => e = .returned (.tuple #[.string (cgD t).1, .int .i64 (cgD t).2]) ∧ Only (fun _ => False) W w') := fun W => udead_any t.key W
  obtain ⟨x, hx⟩ : ∃ x, (cgD t).1 = x := ⟨_, rfl⟩
  obtain ⟨y, hy⟩ : ∃ x, (cgD t).2 = x := ⟨_, rfl⟩
  rw [hx, hy] at HD ⊢
  clear hx hy
  unfold Tu.agg
  go_enter Tryz.func41, Tryz.ntmps41
  go_upto_region 1 with fail
  obtain ⟨W0, hW0⟩ : ∃ x, w.alloc (.cells #[.int .i64 t.xmin, .int .i64 t.xmax, .bool t.frozen, .string t.key, .string t.value] 53) = x := ⟨_, rfl⟩
  rw [hW0] at HB HO ⊢
  clear hW0
  have c3 := HB.out.c3
  go_wp2_with fail
  refine (HD.out _).mono ?_
  rintro e w1 ⟨rfl, ho⟩
  go_wp2_with fail
  go_ret2
  exact ⟨rfl, o2 HO.out ho⟩
set_option maxRecDepth 100000 in
set_option maxHeartbeats 800000 in
theorem apfrozen_any (t : Tu) (w : World) (ht : t.ok = true) :
    Calls Tryz.prog 48 #[t.agg] w fun e w' => e = .returned (.tuple #[.string (cgF t).1, .int .i64 (cgF t).2]) ∧ Only (fun _ => False) w w' := by
  have hk := Tu.ok_iff.1 ht
  have HB := hide (Tb.new w t)
  have HO := hide (onlyA w (.cells #[.int .i64 t.xmin, .int .i64 t.xmax, .bool t.frozen, .string t.key, .string t.value] 53))
  have HD : Hid (∀ W, Calls Tryz.prog 27 #[.agg #[.int .i64 t.xmin, .int .i64 t.xmax, .bool true, .string t.key, .string t.value]] W fun e w' => e = .returned (.tuple #[.string (cgF t).1, .int .i64 (cgF t).2]) ∧ Only (fun _ => False) W w') := fun W => uencode_any ⟨t.xmin, t.xmax, true, t.key, t.value⟩ W (by dsimp only; omega) (by dsimp only; omega)
  obtain ⟨x, hx⟩ : ∃ x, (cgF t).1 = x := ⟨_, rfl⟩
  obtain ⟨y, hy⟩ : ∃ x, (cgF t).2 = x := ⟨_, rfl⟩
  rw [hx, hy] at HD ⊢
  clear hx hy hk ht
  unfold Tu.agg
  go_enter Tryz.func48, Tryz.ntmps48
  go_upto_region 1 with fail
  obtain ⟨b, hb⟩ : ∃ b, w.heap.size = b := ⟨_, rfl⟩
  obtain ⟨W0, hW0⟩ : ∃ x, w.alloc (.cells #[.int .i64 t.xmin, .int .i64 t.xmax, .bool t.frozen, .string t.key, .string t.value] 53) = x := ⟨_, rfl⟩
  rw [hb] at HB ⊢
  rw [hW0] at HB HO ⊢
  have HOW : Hid (∀ v i, Only (fun _ => False) w (W0.setCell ⟨b, i, none⟩ v)) := fun v i => HO.out.trans (Only.setCell (S := fun k => k = b) W0 ⟨b, i, none⟩ v rfl) (fun i hi e => by omega)
  clear hW0 hb
  obtain ⟨c0, c1, c2, c3, c4, f0, f1, f2, f3, f4, _⟩ := HB.out
  go_wp2_with fail
  refine (HD.out _).mono ?_
  rintro e w1 ⟨rfl, ho⟩
  go_wp2_with fail
  go_ret2
  exact ⟨rfl, o2 (HOW.out _ _) ho⟩
set_option maxRecDepth 100000 in
set_option maxHeartbeats 800000 in
theorem apendless_any (t : Tu) (w : World) (ht : t.ok = true) :
    Calls Tryz.prog 49 #[t.agg] w fun e w' => e = .returned (.tuple #[.string (cgX t).1, .int .i64 (cgX t).2]) ∧ Only (fun _ => False) w w' := by
  have hk := Tu.ok_iff.1 ht
  have HB := hide (Tb.new w t)
  have HO := hide (onlyA w (.cells #[.int .i64 t.xmin, .int .i64 t.xmax, .bool t.frozen, .string t.key, .string t.value] 53))
  have HD : Hid (∀ W, Calls Tryz.prog 27 #[.agg #[.int .i64 t.xmin, .int .i64 0, .bool t.frozen, .string t.key, .string t.value]] W fun e w' => e = .returned (.tuple #[.string (cgX t).1, .int .i64 (cgX t).2]) ∧ Only (fun _ => False) W w') := fun W => uencode_any ⟨t.xmin, 0, t.frozen, t.key, t.value⟩ W (by dsimp only; omega) (by dsimp only; omega)
  obtain ⟨x, hx⟩ : ∃ x, (cgX t).1 = x := ⟨_, rfl⟩
  obtain ⟨y, hy⟩ : ∃ x, (cgX t).2 = x := ⟨_, rfl⟩
  rw [hx, hy] at HD ⊢
  clear hx hy hk ht
  unfold Tu.agg
  go_enter Tryz.func49, Tryz.ntmps49
  go_upto_region 1 with fail
  obtain ⟨b, hb⟩ : ∃ b, w.heap.size = b := ⟨_, rfl⟩
  obtain ⟨W0, hW0⟩ : ∃ x, w.alloc (.cells #[.int .i64 t.xmin, .int .i64 t.xmax, .bool t.frozen, .string t.key, .string t.value] 53) = x := ⟨_, rfl⟩
  rw [hb] at HB ⊢
  rw [hW0] at HB HO ⊢
  have HOW : Hid (∀ v i, Only (fun _ => False) w (W0.setCell ⟨b, i, none⟩ v)) := fun v i => HO.out.trans (Only.setCell (S := fun k => k = b) W0 ⟨b, i, none⟩ v rfl) (fun i hi e => by omega)
  clear hW0 hb
  obtain ⟨c0, c1, c2, c3, c4, f0, f1, f2, f3, f4, _⟩ := HB.out
  go_wp2_with fail
  refine (HD.out _).mono ?_
  rintro e w1 ⟨rfl, ho⟩
  go_wp2_with fail
  go_ret2
  exact ⟨rfl, o2 (HOW.out _ _) ho⟩
/-- Two numbers that a closure captured, each in its variable. -/
structure Two (w : World) (b1 b2 : Nat) (o n : Int) : Prop where
  c1 : w.cell? ⟨b1, 0, none⟩ = some (.int .i64 o)
  c2 : w.cell? ⟨b2, 0, none⟩ = some (.int .i64 n)
  l1 : b1 < w.heap.size
  l2 : b2 < w.heap.size
theorem Two.kept {S : Nat → Prop} {w w' : World} {b1 b2 : Nat} {o n : Int} (h : Two w b1 b2 o n) (ho : Only S w w') (h1 : ¬ S b1) (h2 : ¬ S b2) : Two w' b1 b2 o n :=
  ⟨(ho.cell (p := ⟨b1, 0, none⟩) h.l1 h1).trans h.c1, (ho.cell (p := ⟨b2, 0, none⟩) h.l2 h2).trans h.c2, Nat.lt_of_lt_of_le h.l1 ho.size, Nat.lt_of_lt_of_le h.l2 ho.size⟩
set_option maxRecDepth 100000 in
set_option maxHeartbeats 800000 in
theorem apending1_any (t : Tu) (w : World) (ht : t.ok = true) (b1 b2 : Nat) (o n : Int) (h2 : Two w b1 b2 o n) (hn : -9223372036854775808 ≤ n ∧ n < 9223372036854775808) :
    Calls Tryz.prog 72 #[t.agg, .pointer (some ⟨b1, 0, none⟩), .pointer (some ⟨b2, 0, none⟩)] w fun e w' => e = .returned (.tuple #[.string (cgE o n t).1, .int .i64 (cgE o n t).2]) ∧ Only (fun _ => False) w w' := by
  have hk := Tu.ok_iff.1 ht
  have HB := hide (Tb.new w t)
  have HO := hide (onlyA w (.cells #[.int .i64 t.xmin, .int .i64 t.xmax, .bool t.frozen, .string t.key, .string t.value] 53))
  have HT := hide (h2.kept HO.out (fun h => h) (fun h => h))
  have hl2 := h2.l2
  by_cases hx : t.xmax = o
  · have HD : Hid (∀ W, Calls Tryz.prog 27 #[.agg #[.int .i64 t.xmin, .int .i64 n, .bool t.frozen, .string t.key, .string t.value]] W fun e w' => e = .returned (.tuple #[.string (cgE o n t).1, .int .i64 (cgE o n t).2]) ∧ Only (fun _ => False) W w') := fun W => by
      unfold cgE
      rw [if_pos hx]
      exact uencode_any ⟨t.xmin, n, t.frozen, t.key, t.value⟩ W (by dsimp only; omega) hn
    obtain ⟨x, hx⟩ : ∃ x, (cgE o n t).1 = x := ⟨_, rfl⟩
    obtain ⟨y, hy⟩ : ∃ x, (cgE o n t).2 = x := ⟨_, rfl⟩
    rw [hx, hy] at HD ⊢
    clear hx hy hk ht h2
    subst o
    unfold Tu.agg
    go_enter Tryz.func72, Tryz.ntmps72
    go_upto_region 1 with fail
    obtain ⟨b, hb⟩ : ∃ b, w.heap.size = b := ⟨_, rfl⟩
    obtain ⟨W0, hW0⟩ : ∃ x, w.alloc (.cells #[.int .i64 t.xmin, .int .i64 t.xmax, .bool t.frozen, .string t.key, .string t.value] 53) = x := ⟨_, rfl⟩
    rw [hb] at HB ⊢
    rw [hW0] at HB HO HT ⊢
    have HOW : Hid (∀ v i, Only (fun _ => False) w (W0.setCell ⟨b, i, none⟩ v)) := fun v i => HO.out.trans (Only.setCell (S := fun k => k = b) W0 ⟨b, i, none⟩ v rfl) (fun i hi e => by omega)
    clear hW0 hb
    obtain ⟨c0, c1, c2, c3, c4, f0, f1, f2, f3, f4, _⟩ := HB.out
    have d1 := HT.out.c1
    have d2 := HT.out.c2
    go_wp2_with fail
    refine (HD.out _).mono ?_
    rintro e w1 ⟨rfl, ho⟩
    go_wp2_with fail
    go_ret2
    exact ⟨rfl, o2 (HOW.out _ _) ho⟩
  · have e1 : cgE o n t = (⟨#[]⟩, 110) := by unfold cgE; rw [if_neg hx]
    rw [e1]
    have hb : (t.xmax == o) = false := by simpa using hx
    clear e1 hk ht h2
    unfold Tu.agg
    go_enter Tryz.func72, Tryz.ntmps72
    go_upto_region 1 with fail
    obtain ⟨W0, hW0⟩ : ∃ x, w.alloc (.cells #[.int .i64 t.xmin, .int .i64 t.xmax, .bool t.frozen, .string t.key, .string t.value] 53) = x := ⟨_, rfl⟩
    rw [hW0] at HB HO HT ⊢
    clear hW0
    have c1 := HB.out.c1
    have d1 := HT.out.c1
    go_wp2_with fail
    go_ret2
    exact ⟨rfl, HO.out⟩
end Go.Proofs.YtphofhicehncgaaGreat

namespace Go.Proofs.YtphofhicehncgaaGreat
open Go.RowKit

/-- A record's cells as a list. -/
def Rc.cl (r : Rc) (L : Loc) : List Value := (r.cells L).toList
theorem Tryz.sizeRecY : (Tryz.prog.info? 34).map (·.size) = some 16 := by kernel_rfl
theorem Bx.range {w : World} {b : Nat} {r : Rc} {L : Loc} (h : Bx w b r L) : w.rangeAt b 0 (r.cl L) := by
  intro j v hv
  rw [Nat.zero_add]
  have hj : j < 16 := by
    have := (List.getElem?_eq_some_iff.1 hv).1
    exact this
  match j, hj with
  | 0, _ => cases hv; exact h.c0
  | 1, _ => cases hv; exact h.c1
  | 2, _ => cases hv; exact h.c2
  | 3, _ => cases hv; exact h.c3
  | 4, _ => cases hv; exact h.c4
  | 5, _ => cases hv; exact h.c5
  | 6, _ => cases hv; exact h.c6
  | 7, _ => cases hv; exact h.c7
  | 8, _ => cases hv; exact h.c8
  | 9, _ => cases hv; exact h.c9
  | 10, _ => cases hv; exact h.c10
  | 11, _ => cases hv; exact h.c11
  | 12, _ => cases hv; exact h.c12
  | 13, _ => cases hv; exact h.c13
  | 14, _ => cases hv; exact h.c14
  | 15, _ => cases hv; exact h.c15
theorem only_setCellsY (b : Nat) (vs : List Value) (o : Nat) (w : World) : Only (fun k => k = b) w (w.setCells b o vs) := by
  induction vs generalizing o w with
  | nil => exact Only.refl _ _
  | cons v r ih =>
    rw [World.setCells]
    exact (Only.setCell (S := fun k => k = b) w ⟨b, o, none⟩ v rfl).trans (ih (o + 1) _) (fun _ _ h => h)
theorem sizes_setCellsY (b : Nat) (vs : List Value) (o : Nat) (w : World) : (w.setCells b o vs).heap.size = w.heap.size := by
  induction vs generalizing o w with
  | nil => rfl
  | cons v r ih => rw [World.setCells, ih]; simp
theorem froz_setCellsY (b : Nat) (vs : List Value) (o : Nat) (w : World) (p : Addr) : (w.setCells b o vs).frozen? p = w.frozen? p := by
  induction vs generalizing o w with
  | nil => rfl
  | cons v r ih => rw [World.setCells, ih]; simp
/-- A record's block: its cells, and that they may be written. -/
structure Rb (w : World) (b : Nat) (r : Rc) (L : Loc) : Prop where
  range : w.rangeAt b 0 (r.cl L)
  there : w.there b 0 16
  lt : b < w.heap.size
theorem Rb.new (w : World) (r : Rc) (L : Loc) : Rb (w.alloc (.cells (r.cells L) 34)) w.heap.size r L :=
  ⟨fun j v hv => by rw [Nat.zero_add]; simpa [Rc.cl] using hv, fun j hj => by rw [Nat.zero_add]; exact ⟨by simpa using hj, by simp⟩, by simp⟩
theorem Rb.kept {S : Nat → Prop} {w w' : World} {b : Nat} {r : Rc} {L : Loc} (h : Rb w b r L) (ho : Only S w w') (hS : ¬ S b) : Rb w' b r L :=
  ⟨fun j v hv => (ho.cell (p := ⟨b, 0 + j, none⟩) h.lt hS).trans (h.range j v hv), fun j hj => by
    obtain ⟨h1, h2⟩ := h.there j hj
    exact ⟨by rw [ho.cell (p := ⟨b, 0 + j, none⟩) h.lt hS]; exact h1, by rw [ho.frozen (p := ⟨b, 0 + j, none⟩) h.lt hS]; exact h2⟩, Nat.lt_of_lt_of_le h.lt ho.size⟩
theorem Rb.more {w w' : World} {b : Nat} {r : Rc} {L : Loc} (h : Rb w b r L) (ho : Only (fun _ => False) w w') : Rb w' b r L := h.kept ho (fun h => h)
theorem Rb.cell {w : World} {b : Nat} {r : Rc} {L : Loc} (h : Rb w b r L) (j : Nat) (v : Value) (hv : (r.cl L)[j]? = some v) : w.cell? ⟨b, j, none⟩ = some v := by
  have := h.range j v hv
  rwa [Nat.zero_add] at this
theorem Rb.frozen {w : World} {b : Nat} {r : Rc} {L : Loc} (h : Rb w b r L) (j : Nat) (hj : j < 16) : w.frozen? ⟨b, j, none⟩ = false := by
  have := (h.there j hj).2
  rwa [Nat.zero_add] at this
theorem Rb.bx {w : World} {b : Nat} {r : Rc} {L : Loc} (h : Rb w b r L) : Bx w b r L :=
  ⟨h.cell 0 _ rfl, h.cell 1 _ rfl, h.cell 2 _ rfl, h.cell 3 _ rfl, h.cell 4 _ rfl, h.cell 5 _ rfl, h.cell 6 _ rfl, h.cell 7 _ rfl, h.cell 8 _ rfl, h.cell 9 _ rfl, h.cell 10 _ rfl, h.cell 11 _ rfl, h.cell 12 _ rfl, h.cell 13 _ rfl, h.cell 14 _ rfl, h.cell 15 _ rfl, h.lt⟩
theorem Rb.set {w : World} {b : Nat} {q : Rc} {M : Loc} (h : Rb w b q M) (r : Rc) (L : Loc) : Rb (w.setCells b 0 (r.cl L)) b r L := by
  have hr := World.rangeAt_setCells_same w b 0 (r.cl L) h.there
  refine ⟨hr, fun j hj => ?_, by rw [sizes_setCellsY]; exact h.lt⟩
  have hj' : j < (r.cl L).length := hj
  exact ⟨by rw [hr j _ (List.getElem?_eq_getElem hj')]; rfl, by rw [froz_setCellsY]; exact (h.there j hj).2⟩
/-- One cell of a record written. -/
theorem Rb.one {w : World} {b : Nat} {r q : Rc} {L M : Loc} (h : Rb w b r L) (i : Nat) (x : Value) (hi : i < 16) (hq : (r.cl L).set i x = q.cl M) : Rb (w.setCell ⟨b, i, none⟩ x) b q M := by
  refine ⟨fun j v hv => ?_, fun j hj => ?_, by simpa using h.lt⟩
  · rw [← hq] at hv
    rw [Nat.zero_add]
    by_cases e : i = j
    · subst e
      have hl : i < (r.cl L).length := hi
      rw [List.getElem?_set_self hl] at hv
      cases hv
      exact World.cell?_setCell_same _ _ _ (h.cell i _ (List.getElem?_eq_getElem hl))
    · rw [List.getElem?_set_ne e] at hv
      exact (World.cell?_setCell_other _ _ _ _ (by intro e2; injection e2 with _ e3; exact e e3)).trans (h.cell j v hv)
  · obtain ⟨h1, h2⟩ := h.there j hj
    refine ⟨?_, by simpa using h2⟩
    rw [Nat.zero_add] at h1 ⊢
    by_cases e : i = j
    · subst e
      obtain ⟨u, hu⟩ := Option.isSome_iff_exists.1 h1
      rw [World.cell?_setCell_same _ _ _ hu]
      rfl
    · rw [World.cell?_setCell_other _ _ _ _ (by intro e2; injection e2 with _ e3; exact e e3)]
      exact h1
section
variable {ops : Array Oper} {rest : List Oper} {o : Oper} {a : Act} {w : World} {Q : Exit → Act → World → Prop}
theorem wpList_load_rc (hg : o.guard = none) (x : Operand) (hop : o.op = .load 34 x) (b : Nat) (hx : a.eval x = .pointer (some ⟨b, 0, none⟩)) (r : Rc) (L : Loc) (hc : w.rangeAt b 0 (r.cl L))
    (h : wpList Tryz.prog ops Q rest (a.put o.dst (.agg (r.cells L))) w) : wpList Tryz.prog ops Q (o :: rest) a w :=
  wpList_load_mid hg 34 x hop b 0 hx (r.cl L) _ hc Tryz.underlying34 rfl Tryz.sizeRecY h
theorem wpList_put_rc (hg : o.guard = none) (x y : Operand) (hop : o.op = .store 34 x y) (b : Nat) (hx : a.eval x = .pointer (some ⟨b, 0, none⟩)) (q r : Rc) (M L : Loc) (hy : a.eval y = .agg (r.cells L)) (hc : Rb w b q M)
    (h : ∀ W, Hid (Rb W b r L ∧ Only (fun k => k = b) w W) → wpList Tryz.prog ops Q rest (a.put o.dst undef) W) : wpList Tryz.prog ops Q (o :: rest) a w :=
  wpList_store_mid hg 34 x y hop b 0 (r.cells L) hx hy hc.there Tryz.sizeRecY (by simp [Value.oneCell']) (h _ ⟨hc.set r L, only_setCellsY _ _ _ _⟩)
end
end Go.Proofs.YtphofhicehncgaaGreat

namespace Go.Proofs.YtphofhicehncgaaGreat
open Go.RowKit

/-- What changed answers. -/
structure ChQ (w w' : World) (base : Nat) (sl : Value) (e : Ending) (p : Pg) (x : List ByteArray × Int) : Prop where
  only : Only (fun k => sl.ownBlock = some k) w w'
  good : x.2 = 0 → e = .returned (.tuple #[.agg #[.int .i64 p.lsn, .int .i64 p.kind, .int .i64 p.level, .int .i64 p.right, .string p.high, sl], .int .i64 0]) ∧ Ls w' base sl x.1 ∧ (∀ s ∈ x.1, s.size ≤ 140737488355328)
  bad : ¬ x.2 = 0 → e = .returned (.tuple #[.agg #[.int .i64 0, .int .i64 0, .int .i64 0, .int .i64 0, .string ⟨#[]⟩, .slice none 0 0], .int .i64 x.2])
theorem ChQ.der {w w' : World} {base : Nat} {sl : Value} {e : Ending} {p : Pg} {x : List ByteArray × Int} (h : ChQ w w' base sl e p x) (hl : x.1.length ≤ 8796093022207) : DeR w w' sl e (p.chg x) x.2 := by
  unfold Pg.chg
  by_cases hx : x.2 = 0
  · rw [if_pos hx, hx]
    obtain ⟨he, hL, hs⟩ := h.good hx
    obtain ⟨B, ao, cp, rfl, hS, hF, _, hb⟩ := hL.strs hl hs
    refine ⟨B, ao, cp, he, hS, hF, h.only, fun h0 => .inl ?_⟩
    rcases hb with rfl | rfl
    · have h0' : 0 < x.1.length := h0
      obtain ⟨o, e, _⟩ := hS.at_ h0'
      cases e
    · rfl
  · rw [if_neg hx, h.bad hx]
    exact deR_none sl _ h.only
/-- The variables of changed and clean: the page and the page that is answered; the list as it is by now. -/
structure Ck (w W : World) (rb : Nat) (a k v r : Int) (h : ByteArray) (base : Nat) (sl : Value) (l : List ByteArray) : Prop where
  pag : Pag W w.heap.size (.int .i64 a) (.int .i64 k) (.int .i64 v) (.int .i64 r) (.string h) sl
  rbl : w.heap.size < rb
  res : Pag W rb (.int .i64 0) (.int .i64 0) (.int .i64 0) (.int .i64 0) (.string ⟨#[]⟩) (.slice none 0 0)
  ls : Ls W base sl l
  siz : ∀ s ∈ l, s.size ≤ 140737488355328
  own : ∀ j, sl.ownBlock = some j → j < w.heap.size
  only : Only (fun j => sl.ownBlock = some j) w W
theorem Ck.more {w W W' : World} {rb : Nat} {a k v r : Int} {h : ByteArray} {base : Nat} {sl : Value} {l : List ByteArray} (x : Ck w W rb a k v r h base sl l) (ho : Only (fun _ => False) W W') : Ck w W' rb a k v r h base sl l :=
  ⟨x.pag.more ho, x.rbl, x.res.more ho, x.ls.more ho, x.siz, x.own, x.only.trans (ho.mono (fun _ _ h => h.elim)) (fun _ _ h => h)⟩
theorem Ck.start (w : World) (a k v r : Int) (h : ByteArray) (base : Nat) (sl : Value) (l : List ByteArray) (hL : Ls w base sl l) (hs : ∀ s ∈ l, s.size ≤ 140737488355328) : Ck w (boxes w a k v r h sl) (w.heap.size + 1) a k v r h base sl l :=
  ⟨boxes_one _ _ _ _ _ _ _, Nat.lt_succ_self _, boxes_two _ _ _ _ _ _ _, hL.more (boxes_only _ _ _ _ _ _ _), hs, fun j hj => (World.ownsRow.lt hL j hj).2, (boxes_only _ _ _ _ _ _ _).mono (fun _ _ h => h.elim)⟩
theorem Ck.set {w W : World} {rb : Nat} {a k v r : Int} {h : ByteArray} {base g n cap : Nat} {l : List ByteArray} (x : Ck w W rb a k v r h base (.slice (some ⟨g, 0, none⟩) n cap) l) (hn : l.length = n) (i : Nat) (it : ByteArray) (hi : it.size ≤ 140737488355328) : Ck w (W.setCell ⟨g, i, none⟩ (.string it)) rb a k v r h base (.slice (some ⟨g, 0, none⟩) n cap) (l.set i it) := by
  have hg : g < w.heap.size := x.own g rfl
  have ho : Only (fun j => j = g) W (W.setCell ⟨g, i, none⟩ (.string it)) := Only.setCell W ⟨g, i, none⟩ _ rfl
  subst hn
  have hrb := x.rbl
  refine ⟨x.pag.kept ho (by omega), x.rbl, x.res.kept ho (by omega), ?_, ?_, x.own, x.only.trans ho (fun j _ e => by rw [e]; rfl)⟩
  · have hs := (World.ownsRow.stored x.ls i (.string it)).1
    have e : (scells l).set i (.string it) = scells (l.set i it) := by unfold scells; rw [List.map_set]
    rw [e] at hs
    unfold Ls
    rw [List.length_set]
    exact hs
  · intro s hs
    rcases List.mem_or_eq_of_mem_set hs with hs | rfl
    · exact x.siz s hs
    · exact hi
theorem Ck.item {w W : World} {rb : Nat} {a k v r : Int} {h : ByteArray} {base g n cap : Nat} {l : List ByteArray} (x : Ck w W rb a k v r h base (.slice (some ⟨g, 0, none⟩) n cap) l) (hn : l.length = n) (i : Nat) (hi : i < l.length) : W.cell? ⟨g, i, none⟩ = some (.string l[i]) ∧ W.frozen? ⟨g, i, none⟩ = false := by
  subst hn
  refine ⟨?_, World.ownsRow.frozenAt x.ls i⟩
  rw [World.ownsRow.cellAt x.ls i (by omega)]
  simp [scells, hi]
theorem Ck.form {w W : World} {rb : Nat} {a k v r : Int} {h : ByteArray} {base : Nat} {sl : Value} {l : List ByteArray} (x : Ck w W rb a k v r h base sl l) (h0 : 0 < l.length) : ∃ g cap, sl = .slice (some ⟨g, 0, none⟩) l.length cap := by
  rcases x.ls.2 with ⟨_, hz⟩ | ⟨g, cap, cur, rfl, _⟩
  · omega
  · exact ⟨g, cap, rfl⟩
theorem Ck.done {w W : World} {rb : Nat} {a k v r : Int} {h : ByteArray} {base : Nat} {sl : Value} {l : List ByteArray} {x : List ByteArray × Int} (c : Ck w W rb a k v r h base sl l) (hx : (l, 0) = x) (v0 v1 v2 v3 v4 v5 : Value) :
    ChQ w ((((((W.setCell ⟨rb, 0, none⟩ v0).setCell ⟨rb, 1, none⟩ v1).setCell ⟨rb, 2, none⟩ v2).setCell ⟨rb, 3, none⟩ v3).setCell ⟨rb, 4, none⟩ v4).setCell ⟨rb, 5, none⟩ v5) base sl (.returned (.tuple #[.agg #[.int .i64 a, .int .i64 k, .int .i64 v, .int .i64 r, .string h, sl], .int .i64 0])) ⟨a, k, v, r, h, [⟨#[]⟩]⟩ x := by
  subst hx
  have hrb := c.rbl
  have h6 := Only.six W rb v0 v1 v2 v3 v4 v5
  exact ⟨c.only.trans h6 (fun i hi e => by omega), fun _ => ⟨rfl, c.ls.kept h6 (fun j hj e => by have := c.own j hj; omega), c.siz⟩, fun h => absurd rfl h⟩
theorem Ck.fail {w W : World} {rb : Nat} {a k v r : Int} {h : ByteArray} {base : Nat} {sl : Value} {l : List ByteArray} {x : List ByteArray × Int} {p : Pg} (z : Int) (c : Ck w W rb a k v r h base sl l) (hx : x.2 = z) (hz : ¬ z = 0) (v0 v1 v2 v3 v4 v5 : Value) :
    ChQ w ((((((W.setCell ⟨rb, 0, none⟩ v0).setCell ⟨rb, 1, none⟩ v1).setCell ⟨rb, 2, none⟩ v2).setCell ⟨rb, 3, none⟩ v3).setCell ⟨rb, 4, none⟩ v4).setCell ⟨rb, 5, none⟩ v5) base sl (.returned (.tuple #[.agg #[.int .i64 0, .int .i64 0, .int .i64 0, .int .i64 0, .string ⟨#[]⟩, .slice none 0 0], .int .i64 z])) p x := by
  have hrb := c.rbl
  have h6 := Only.six W rb v0 v1 v2 v3 v4 v5
  exact ⟨c.only.trans h6 (fun i hi e => by omega), fun h => absurd (hx.symm.trans h) hz, fun _ => by rw [hx]⟩
end Go.Proofs.YtphofhicehncgaaGreat

namespace Go.Proofs.YtphofhicehncgaaGreat
open Go.RowKit

/-- The variables of a deed: the page, the record, the page that is answered. -/
def boxR (w : World) (a k v r : Int) (h : ByteArray) (sl : Value) (R : Rc) (L : Loc) : World := ((w.alloc (.cells #[.int .i64 a, .int .i64 k, .int .i64 v, .int .i64 r, .string h, sl] 25)).alloc (.cells (R.cells L) 34)).alloc (.cells #[.int .i64 0, .int .i64 0, .int .i64 0, .int .i64 0, .string ⟨#[]⟩, .slice none 0 0] 25)
structure BoxR (w W : World) (a k v r : Int) (h : ByteArray) (sl : Value) (R : Rc) (L : Loc) : Prop where
  pag : Pag W w.heap.size (.int .i64 a) (.int .i64 k) (.int .i64 v) (.int .i64 r) (.string h) sl
  rc : Bx W (w.heap.size + 1) R L
  res : Pag W (w.heap.size + 1 + 1) (.int .i64 0) (.int .i64 0) (.int .i64 0) (.int .i64 0) (.string ⟨#[]⟩) (.slice none 0 0)
  only : Only (fun _ => False) w W
theorem BoxR.more {w W W' : World} {a k v r : Int} {h : ByteArray} {sl : Value} {R : Rc} {L : Loc} (x : BoxR w W a k v r h sl R L) (ho : Only (fun _ => False) W W') : BoxR w W' a k v r h sl R L := ⟨x.pag.more ho, x.rc.more ho, x.res.more ho, o2 x.only ho⟩
theorem boxR_new (w : World) (a k v r : Int) (h : ByteArray) (sl : Value) (R : Rc) (L : Loc) : BoxR w (boxR w a k v r h sl R L) a k v r h sl R L := by
  unfold boxR
  have e2 := Bx.new (w.alloc (.cells #[.int .i64 a, .int .i64 k, .int .i64 v, .int .i64 r, .string h, sl] 25)) R L
  rw [World.size_alloc] at e2
  have e3 := Pag.new ((w.alloc (.cells #[.int .i64 a, .int .i64 k, .int .i64 v, .int .i64 r, .string h, sl] 25)).alloc (.cells (R.cells L) 34)) (.int .i64 0) (.int .i64 0) (.int .i64 0) (.int .i64 0) (.string ⟨#[]⟩) (.slice none 0 0)
  rw [World.size_alloc, World.size_alloc] at e3
  exact ⟨(Pag.new w _ _ _ _ _ _).more (o2 (onlyA _ _) (onlyA _ _)), e2.more (onlyA _ _), e3, o2 (o2 (onlyA _ _) (onlyA _ _)) (onlyA _ _)⟩
theorem BoxR.ck {w W : World} {a k v r : Int} {h : ByteArray} {base : Nat} {sl : Value} {R : Rc} {L : Loc} {l : List ByteArray} (x : BoxR w W a k v r h sl R L) (hL : Ls w base sl l) (hs : ∀ s ∈ l, s.size ≤ 140737488355328) : Ck w W (w.heap.size + 1 + 1) a k v r h base sl l :=
  ⟨x.pag, by omega, x.res, hL.more x.only, hs, fun j hj => (World.ownsRow.lt hL j hj).2, x.only.mono (fun _ _ h => h.elim)⟩
set_option maxRecDepth 100000 in
set_option maxHeartbeats 3200000 in
theorem clean_any (w : World) (a k v r : Int) (h : ByteArray) (base : Nat) (sl : Value) (l : List ByteArray) (hL : Ls w base sl l) (hsz : ∀ s ∈ l, s.size ≤ 140737488355328) (R : Rc) (L : Loc) (hz : Zs w L.b1 L.a1 R.slots) (hzn : 0 < R.slots.length → ¬ sl.ownBlock = some L.b1) :
    Calls Tryz.prog 23 #[.agg #[.int .i64 a, .int .i64 k, .int .i64 v, .int .i64 r, .string h, sl], .agg (R.cells L)] w fun e w' => ChQ w w' base sl e ⟨a, k, v, r, h, [⟨#[]⟩]⟩ (clnL R.slots l) := by
  have HB := hide (boxR_new w a k v r h sl R L)
  have HC0 := hide (HB.out.ck hL hsz)
  have HZ : Hid (∀ W, Only (fun j => sl.ownBlock = some j) w W → Zs W L.b1 L.a1 R.slots) := fun W ho => hz.kept ho hzn
  have hzl := hz.len
  obtain ⟨X, hX⟩ : ∃ X, clnL R.slots l = X := ⟨_, rfl⟩
  rw [hX]
  have HX := hide hX
  obtain ⟨ao, cp, hform⟩ : ∃ ao cp, sl = .slice ao l.length cp := by
    rcases hL.2 with ⟨rfl, h0⟩ | ⟨g, cap, cur, rfl, _⟩
    · exact ⟨none, 0, by rw [h0]⟩
    · exact ⟨_, _, rfl⟩
  clear hX hL hsz hz hzn
  subst hform
  go_enter Tryz.func23, Tryz.ntmps23
  go_upto_region 1 with fail
  obtain ⟨W0, hW0⟩ : ∃ x, boxR w a k v r h (.slice ao l.length cp) R L = x := ⟨_, rfl⟩
  rw [hW0] at HC0 HB
  unfold boxR at hW0
  rw [hW0]
  clear hW0
  have c11 := HB.out.rc.c11
  go_wp2_with fail
  clear c11
  go_loopw [11] (fun i wr => ∃ (j : Nat) (m : List ByteArray), j ≤ R.slots.length ∧ i = .int .i64 (j : Int) ∧ m.length = l.length ∧ Hid (Ck w wr (w.heap.size + 1 + 1) a k v r h base (.slice ao l.length cp) m) ∧ Hid (clnL (R.slots.drop j) m = X)) (fun i _ => R.slots.length - (intOf i).toNat)
  case atStart => exact ⟨0, l, Nat.zero_le _, rfl, rfl, HC0, HX⟩
  case round =>
    clear HC0 HX HB
    obtain ⟨j, m, hj, rfl, hm, HC, HX⟩ := hrel
    by_cases hlt : j < R.slots.length
    · obtain ⟨zo, hza, hc⟩ := (HZ.out _ HC.out.only).at_ (by omega)
      have ck := hc j hlt
      have hlk : (j : Int) < (R.slots.length : Int) := by omega
      rw [List.drop_eq_getElem_cons hlt, clnL] at HX
      obtain ⟨s, hs⟩ : ∃ s, R.slots[j] = s := ⟨_, rfl⟩
      rw [hs] at ck HX
      rw [hm] at HX
      clear hc hs
      obtain ⟨p0, p1, p2, p3, p4, p5, _⟩ := HC.out.pag
      rw [hza]
      go_wp2_with fail
      refine (hasSlot_any _ a k v r s h cp l.length ao).mono ?_
      rintro e w1 ⟨rfl, ho⟩
      have HC1 := hide (HC.out.more ho)
      clear ho p0 p1 p2 p3 p4 p5 ck HC
      cases hok : okS l.length s with
      | false =>
        rw [hok, if_neg (by decide)] at HX
        have HE : Hid (X.2 = 110) := by unfold Hid; rw [← HX.out]
        clear HX hok
        obtain ⟨q0, q1, q2, q3, q4, q5, g0, g1, g2, g3, g4, g5, ql⟩ := HC1.out.res
        go_wp2_with fail
        refine bodyPost_ret (results_page rfl rfl (Pag.six HC1.out.res _ _ _ _ _ _)) rfl ?_
        exact HC1.out.fail 110 HE.out (by decide) _ _ _ _ _ _
      | true =>
        rw [hok, if_pos rfl] at HX
        rw [okS_iff] at hok
        obtain ⟨i, rfl⟩ : ∃ i : Nat, s = (i : Int) := ⟨s.toNat, by omega⟩
        have hi : i < m.length := by omega
        obtain ⟨g, cap, hf⟩ := HC1.out.form (by omega)
        rw [hm] at hf
        cases hf
        obtain ⟨ci, fi⟩ := HC1.out.item hm i hi
        have hil : (i : Int) < (l.length : Int) := by omega
        have hi0 : (0 : Int) ≤ (i : Int) := by omega
        rw [Int.toNat_natCast] at HX
        obtain ⟨it, hit⟩ : ∃ it, m[i] = it := ⟨_, rfl⟩
        rw [hit] at ci
        clear hit
        have p5 := HC1.out.pag.c5
        have HC5 : Hid (∀ n, Ck w ((w1.setCell ⟨g, i, none⟩ (.string ⟨#[]⟩)).drewN n) (w.heap.size + 1 + 1) a k v r h base (.slice (some ⟨g, 0, none⟩) l.length cp) (m.set i ⟨#[]⟩)) := fun n => (HC1.out.set hm i ⟨#[]⟩ (by decide)).more ⟨rfl, rfl, rfl, Nat.le_refl _, fun _ _ _ => rfl⟩
        go_upto_region 6 with fail
        go_region_with (
          go_at_call 47
          refine (ufree_any _).mono ?_
          rintro e w5 ⟨rfl, rfl⟩)
        all_goals (
          go_wp2_with fail
          clear HC1 ci fi p5
          go_roundw
          case rel => exact ⟨j + 1, m.set i ⟨#[]⟩, by omega, by go_num, by rw [List.length_set]; exact hm, hide (HC5.out _), HX⟩
          case measure => simp [intOf]; omega)
    · have hlk : ¬ (j : Int) < (R.slots.length : Int) := by omega
      rw [List.drop_of_length_le (by omega), clnL] at HX
      obtain ⟨p0, p1, p2, p3, p4, p5, _⟩ := HC.out.pag
      obtain ⟨q0, q1, q2, q3, q4, q5, g0, g1, g2, g3, g4, g5, ql⟩ := HC.out.res
      go_wp2_with fail
      refine bodyPost_ret (results_page rfl rfl (Pag.six HC.out.res _ _ _ _ _ _)) rfl ?_
      exact HC.out.done HX.out _ _ _ _ _ _
end Go.Proofs.YtphofhicehncgaaGreat
