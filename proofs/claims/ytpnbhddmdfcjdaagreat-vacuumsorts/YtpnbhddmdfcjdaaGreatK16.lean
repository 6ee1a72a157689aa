/- Parts. -/
import Derived.Test.YtpnbhddmdfcjdaaGreatK11
import Derived.Deep.MidRow
import Derived.Laws.Tables
set_option maxRecDepth 100000
namespace Go.Proofs.YtpnbhddmdfcjdaaGreat
open Go.RowKit
/-- Numbers that a slice at ao leads to, in block B. -/
structure Zs (w : World) (B : Nat) (ao : Option Addr) (l : List Int) : Prop where
  at_ : 0 < l.length → ∃ o, ao = some ⟨B, o, none⟩ ∧ ∀ j (h : j < l.length), w.cell? ⟨B, o + j, none⟩ = some (.int .i64 l[j])
  lt : 0 < l.length → B < w.heap.size
  len : l.length ≤ 17592186043904
theorem Zs.nil (w : World) (B : Nat) (ao : Option Addr) : Zs w B ao [] := ⟨fun h => absurd h (by simp), fun h => absurd h (by simp), by simp⟩
theorem Zs.kept {S : Nat → Prop} {w w' : World} {B : Nat} {ao : Option Addr} {l : List Int} (h : Zs w B ao l) (ho : Only S w w') (hS : 0 < l.length → ¬ S B) : Zs w' B ao l :=
  ⟨fun h0 => by
    obtain ⟨o, e, hc⟩ := h.at_ h0
    exact ⟨o, e, fun j hj => (ho.cell (p := ⟨B, o + j, none⟩) (h.lt h0) (hS h0)).trans (hc j hj)⟩, fun h0 => Nat.lt_of_lt_of_le (h.lt h0) ho.size, h.len⟩
/-- Pairs of numbers that a slice at ao leads to, in block B. -/
structure Prs (w : World) (B : Nat) (ao : Option Addr) (l : List (Int × Int)) : Prop where
  at_ : 0 < l.length → ∃ o, ao = some ⟨B, o, none⟩ ∧ ∀ j (h : j < l.length), w.cell? ⟨B, o + j * 2, none⟩ = some (.int .i64 l[j].1) ∧ w.cell? ⟨B, o + j * 2 + 1, none⟩ = some (.int .i64 l[j].2)
  lt : 0 < l.length → B < w.heap.size
  len : l.length ≤ 17592186043904
theorem Prs.nil (w : World) (B : Nat) (ao : Option Addr) : Prs w B ao [] := ⟨fun h => absurd h (by simp), fun h => absurd h (by simp), by simp⟩
theorem Prs.kept {S : Nat → Prop} {w w' : World} {B : Nat} {ao : Option Addr} {l : List (Int × Int)} (h : Prs w B ao l) (ho : Only S w w') (hS : 0 < l.length → ¬ S B) : Prs w' B ao l :=
  ⟨fun h0 => by
    obtain ⟨o, e, hc⟩ := h.at_ h0
    exact ⟨o, e, fun j hj => ⟨(ho.cell (p := ⟨B, o + j * 2, none⟩) (h.lt h0) (hS h0)).trans (hc j hj).1, (ho.cell (p := ⟨B, o + j * 2 + 1, none⟩) (h.lt h0) (hS h0)).trans (hc j hj).2⟩⟩, fun h0 => Nat.lt_of_lt_of_le (h.lt h0) ho.size, h.len⟩
/-- An image whose seven cells lie from k on in block B, its page's items in block D. -/
structure ImAt (w : World) (B k : Nat) (i : Im) (D : Nat) (ao : Option Addr) (cp : Nat) : Prop where
  c0 : w.cell? ⟨B, k, none⟩ = some (.int .i64 i.page)
  c1 : w.cell? ⟨B, k + 1, none⟩ = some (.int .i64 i.body.lsn)
  c2 : w.cell? ⟨B, k + 2, none⟩ = some (.int .i64 i.body.kind)
  c3 : w.cell? ⟨B, k + 3, none⟩ = some (.int .i64 i.body.level)
  c4 : w.cell? ⟨B, k + 4, none⟩ = some (.int .i64 i.body.right)
  c5 : w.cell? ⟨B, k + 5, none⟩ = some (.string i.body.high)
  c6 : w.cell? ⟨B, k + 6, none⟩ = some (.slice ao i.body.items.length cp)
  strs : Strs w D ao i.body.items
  fit : Fit ao i.body.items.length cp
  high : i.body.high.size ≤ 140737488355328
  lsn : i.body.lsn < 9223372036854775808
theorem ImAt.kept {S : Nat → Prop} {w w' : World} {B k : Nat} {i : Im} {D : Nat} {ao : Option Addr} {cp : Nat} (h : ImAt w B k i D ao cp) (hB : B < w.heap.size) (ho : Only S w w') (hS : ¬ S B) (hD : 0 < i.body.items.length → ¬ S D) : ImAt w' B k i D ao cp :=
  ⟨(ho.cell (p := ⟨B, k, none⟩) hB hS).trans h.c0, (ho.cell (p := ⟨B, k + 1, none⟩) hB hS).trans h.c1, (ho.cell (p := ⟨B, k + 2, none⟩) hB hS).trans h.c2, (ho.cell (p := ⟨B, k + 3, none⟩) hB hS).trans h.c3, (ho.cell (p := ⟨B, k + 4, none⟩) hB hS).trans h.c4, (ho.cell (p := ⟨B, k + 5, none⟩) hB hS).trans h.c5, (ho.cell (p := ⟨B, k + 6, none⟩) hB hS).trans h.c6, h.strs.kept ho hD, h.fit, h.high, h.lsn⟩
/-- Images that a slice at ao leads to, in block B; the items of their pages lie in blocks of T. -/
structure Ims (w : World) (T : Nat → Prop) (B : Nat) (ao : Option Addr) (l : List Im) : Prop where
  at_ : 0 < l.length → ∃ o, ao = some ⟨B, o, none⟩ ∧ ∀ j (h : j < l.length), ∃ D a c, ImAt w B (o + j * 7) l[j] D a c ∧ (0 < l[j].body.items.length → T D)
  lt : 0 < l.length → B < w.heap.size
  len : l.length ≤ 17592186043904
theorem Ims.nil (w : World) (T : Nat → Prop) (B : Nat) (ao : Option Addr) : Ims w T B ao [] := ⟨fun h => absurd h (by simp), fun h => absurd h (by simp), by simp⟩
theorem Ims.kept {S T : Nat → Prop} {w w' : World} {B : Nat} {ao : Option Addr} {l : List Im} (h : Ims w T B ao l) (ho : Only S w w') (hS : 0 < l.length → ¬ S B) (hT : ∀ d, T d → ¬ S d) : Ims w' T B ao l :=
  ⟨fun h0 => by
    obtain ⟨o, e, hc⟩ := h.at_ h0
    refine ⟨o, e, fun j hj => ?_⟩
    obtain ⟨D, a, c, hi, hD⟩ := hc j hj
    exact ⟨D, a, c, hi.kept (h.lt h0) ho (hS h0) (fun h1 => hT D (hD h1)), hD⟩, fun h0 => Nat.lt_of_lt_of_le (h.lt h0) ho.size, h.len⟩
theorem Zs.more {w w' : World} {B : Nat} {ao : Option Addr} {l : List Int} (h : Zs w B ao l) (ho : Only (fun _ => False) w w') : Zs w' B ao l := h.kept ho (fun _ h => h)
theorem Prs.more {w w' : World} {B : Nat} {ao : Option Addr} {l : List (Int × Int)} (h : Prs w B ao l) (ho : Only (fun _ => False) w w') : Prs w' B ao l := h.kept ho (fun _ h => h)
theorem Ims.more {w w' : World} {T : Nat → Prop} {B : Nat} {ao : Option Addr} {l : List Im} (h : Ims w T B ao l) (ho : Only (fun _ => False) w w') : Ims w' T B ao l := h.kept ho (fun _ h => h) (fun _ _ h => h)
/-- Where a record's lists lie. -/
structure Loc where
  a1 : Option Addr
  a2 : Option Addr
  a3 : Option Addr
  a4 : Option Addr
  a5 : Option Addr
  c1 : Nat
  c2 : Nat
  c3 : Nat
  c4 : Nat
  c5 : Nat
  b1 : Nat
  b2 : Nat
  b3 : Nat
  b4 : Nat
  b5 : Nat
abbrev Rc.cells (r : Rc) (L : Loc) : Array Value :=
  #[.int .i64 r.lsn, .int .i64 r.prev, .int .i64 r.next, .int .u8 r.kind, .int .i64 r.xid, .int .i64 r.page, .int .i64 r.slot, .int .i64 r.old, .int .i64 r.new, .int .i64 r.redo, .string r.data,
    .slice L.a1 r.slots.length L.c1, .slice L.a2 r.more.length L.c2, .slice L.a3 r.images.length L.c3, .slice L.a4 r.pages.length L.c4, .slice L.a5 r.txns.length L.c5]
/-- What a record's lists hold. -/
structure RcAt (w : World) (r : Rc) (L : Loc) : Prop where
  slots : Zs w L.b1 L.a1 r.slots
  more : Zs w L.b2 L.a2 r.more
  images : ∃ T, Ims w T L.b3 L.a3 r.images
  pages : Prs w L.b4 L.a4 r.pages
  txns : Prs w L.b5 L.a5 r.txns
  f1 : Fit L.a1 r.slots.length L.c1
  f2 : Fit L.a2 r.more.length L.c2
  data : r.data.size ≤ 140737488355328
  kind : 0 ≤ r.kind ∧ r.kind ≤ 255
theorem RcAt.go {w w' : World} {r : Rc} {L : Loc} (h : RcAt w r L) (ho : Only (fun _ => False) w w') : RcAt w' r L := by
  obtain ⟨T, hi⟩ := h.images
  exact ⟨h.slots.more ho, h.more.more ho, ⟨T, hi.more ho⟩, h.pages.more ho, h.txns.more ho, h.f1, h.f2, h.data, h.kind⟩
/-- A record in block b, cell by cell. -/
structure Bx (w : World) (b : Nat) (r : Rc) (L : Loc) : Prop where
  c0 : w.cell? ⟨b, 0, none⟩ = some (.int .i64 r.lsn)
  c1 : w.cell? ⟨b, 1, none⟩ = some (.int .i64 r.prev)
  c2 : w.cell? ⟨b, 2, none⟩ = some (.int .i64 r.next)
  c3 : w.cell? ⟨b, 3, none⟩ = some (.int .u8 r.kind)
  c4 : w.cell? ⟨b, 4, none⟩ = some (.int .i64 r.xid)
  c5 : w.cell? ⟨b, 5, none⟩ = some (.int .i64 r.page)
  c6 : w.cell? ⟨b, 6, none⟩ = some (.int .i64 r.slot)
  c7 : w.cell? ⟨b, 7, none⟩ = some (.int .i64 r.old)
  c8 : w.cell? ⟨b, 8, none⟩ = some (.int .i64 r.new)
  c9 : w.cell? ⟨b, 9, none⟩ = some (.int .i64 r.redo)
  c10 : w.cell? ⟨b, 10, none⟩ = some (.string r.data)
  c11 : w.cell? ⟨b, 11, none⟩ = some (.slice L.a1 r.slots.length L.c1)
  c12 : w.cell? ⟨b, 12, none⟩ = some (.slice L.a2 r.more.length L.c2)
  c13 : w.cell? ⟨b, 13, none⟩ = some (.slice L.a3 r.images.length L.c3)
  c14 : w.cell? ⟨b, 14, none⟩ = some (.slice L.a4 r.pages.length L.c4)
  c15 : w.cell? ⟨b, 15, none⟩ = some (.slice L.a5 r.txns.length L.c5)
  lt : b < w.heap.size
/-- A record's cells as a list. -/
def Rc.cl (r : Rc) (L : Loc) : List Value := (r.cells L).toList
theorem Tryz.sizeRecY : (Tryz.prog.info? 47).map (·.size) = some 16 := by kernel_rfl
theorem only_setCellsY (b : Nat) (vs : List Value) (o : Nat) (w : World) : Only (fun k => k = b) w (w.setCells b o vs) := by
  induction vs generalizing o w with
  | nil => exact Only.refl _ _
  | cons v r ih =>
    rw [World.setCells]
    exact (Only.setCell (S := fun k => k = b) w ⟨b, o, none⟩ v rfl).trans (ih (o + 1) _) (fun _ _ h => h)
theorem sizes_setCellsY (b : Nat) (vs : List Value) (o : Nat) (w : World) : (w.setCells b o vs).heap.size = w.heap.size := by
  induction vs generalizing o w with
  | nil => rfl
  | cons v r ih => rw [World.setCells, ih]; simp
theorem froz_setCellsY (b : Nat) (vs : List Value) (o : Nat) (w : World) (p : Addr) : (w.setCells b o vs).frozen? p = w.frozen? p := by
  induction vs generalizing o w with
  | nil => rfl
  | cons v r ih => rw [World.setCells, ih]; simp
/-- A record's block: its cells, and that they may be written. -/
structure Rb (w : World) (b : Nat) (r : Rc) (L : Loc) : Prop where
  range : w.rangeAt b 0 (r.cl L)
  there : w.there b 0 16
  lt : b < w.heap.size
theorem Rb.new (w : World) (r : Rc) (L : Loc) : Rb (w.alloc (.cells (r.cells L) 47)) w.heap.size r L :=
  ⟨fun j v hv => by rw [Nat.zero_add]; simpa [Rc.cl] using hv, fun j hj => by rw [Nat.zero_add]; exact ⟨by simpa using hj, by simp⟩, by simp⟩
theorem Rb.kept {S : Nat → Prop} {w w' : World} {b : Nat} {r : Rc} {L : Loc} (h : Rb w b r L) (ho : Only S w w') (hS : ¬ S b) : Rb w' b r L :=
  ⟨fun j v hv => (ho.cell (p := ⟨b, 0 + j, none⟩) h.lt hS).trans (h.range j v hv), fun j hj => by
    obtain ⟨h1, h2⟩ := h.there j hj
    exact ⟨by rw [ho.cell (p := ⟨b, 0 + j, none⟩) h.lt hS]; exact h1, by rw [ho.frozen (p := ⟨b, 0 + j, none⟩) h.lt hS]; exact h2⟩, Nat.lt_of_lt_of_le h.lt ho.size⟩
theorem Rb.more {w w' : World} {b : Nat} {r : Rc} {L : Loc} (h : Rb w b r L) (ho : Only (fun _ => False) w w') : Rb w' b r L := h.kept ho (fun h => h)
theorem Rb.cell {w : World} {b : Nat} {r : Rc} {L : Loc} (h : Rb w b r L) (j : Nat) (v : Value) (hv : (r.cl L)[j]? = some v) : w.cell? ⟨b, j, none⟩ = some v := by
  have := h.range j v hv
  rwa [Nat.zero_add] at this
theorem Rb.frozen {w : World} {b : Nat} {r : Rc} {L : Loc} (h : Rb w b r L) (j : Nat) (hj : j < 16) : w.frozen? ⟨b, j, none⟩ = false := by
  have := (h.there j hj).2
  rwa [Nat.zero_add] at this
theorem Rb.bx {w : World} {b : Nat} {r : Rc} {L : Loc} (h : Rb w b r L) : Bx w b r L :=
  ⟨h.cell 0 _ rfl, h.cell 1 _ rfl, h.cell 2 _ rfl, h.cell 3 _ rfl, h.cell 4 _ rfl, h.cell 5 _ rfl, h.cell 6 _ rfl, h.cell 7 _ rfl, h.cell 8 _ rfl, h.cell 9 _ rfl, h.cell 10 _ rfl, h.cell 11 _ rfl, h.cell 12 _ rfl, h.cell 13 _ rfl, h.cell 14 _ rfl, h.cell 15 _ rfl, h.lt⟩
theorem Rb.set {w : World} {b : Nat} {q : Rc} {M : Loc} (h : Rb w b q M) (r : Rc) (L : Loc) : Rb (w.setCells b 0 (r.cl L)) b r L := by
  have hr := World.rangeAt_setCells_same w b 0 (r.cl L) h.there
  refine ⟨hr, fun j hj => ?_, by rw [sizes_setCellsY]; exact h.lt⟩
  have hj' : j < (r.cl L).length := hj
  exact ⟨by rw [hr j _ (List.getElem?_eq_getElem hj')]; rfl, by rw [froz_setCellsY]; exact (h.there j hj).2⟩
/-- One cell of a record written. -/
theorem Rb.one {w : World} {b : Nat} {r q : Rc} {L M : Loc} (h : Rb w b r L) (i : Nat) (x : Value) (hi : i < 16) (hq : (r.cl L).set i x = q.cl M) : Rb (w.setCell ⟨b, i, none⟩ x) b q M := by
  refine ⟨fun j v hv => ?_, fun j hj => ?_, by simpa using h.lt⟩
  · rw [← hq] at hv
    rw [Nat.zero_add]
    by_cases e : i = j
    · subst e
      have hl : i < (r.cl L).length := hi
      rw [List.getElem?_set_self hl] at hv
      cases hv
      exact World.cell?_setCell_same _ _ _ (h.cell i _ (List.getElem?_eq_getElem hl))
    · rw [List.getElem?_set_ne e] at hv
      exact (World.cell?_setCell_other _ _ _ _ (by intro e2; injection e2 with _ e3; exact e e3)).trans (h.cell j v hv)
  · obtain ⟨h1, h2⟩ := h.there j hj
    refine ⟨?_, by simpa using h2⟩
    rw [Nat.zero_add] at h1 ⊢
    by_cases e : i = j
    · subst e
      obtain ⟨u, hu⟩ := Option.isSome_iff_exists.1 h1
      rw [World.cell?_setCell_same _ _ _ hu]
      rfl
    · rw [World.cell?_setCell_other _ _ _ _ (by intro e2; injection e2 with _ e3; exact e e3)]
      exact h1
section
variable {ops : Array Oper} {rest : List Oper} {o : Oper} {a : Act} {w : World} {Q : Exit → Act → World → Prop}
theorem wpList_load_rc (hg : o.guard = none) (x : Operand) (hop : o.op = .load 47 x) (b : Nat) (hx : a.eval x = .pointer (some ⟨b, 0, none⟩)) (r : Rc) (L : Loc) (hc : w.rangeAt b 0 (r.cl L))
    (h : wpList Tryz.prog ops Q rest (a.put o.dst (.agg (r.cells L))) w) : wpList Tryz.prog ops Q (o :: rest) a w :=
  wpList_load_mid hg 47 x hop b 0 hx (r.cl L) _ hc Tryz.underlying47 rfl Tryz.sizeRecY h
theorem wpList_put_rc (hg : o.guard = none) (x y : Operand) (hop : o.op = .store 47 x y) (b : Nat) (hx : a.eval x = .pointer (some ⟨b, 0, none⟩)) (q r : Rc) (M L : Loc) (hy : a.eval y = .agg (r.cells L)) (hc : Rb w b q M)
    (h : ∀ W, Hid (Rb W b r L ∧ Only (fun k => k = b) w W) → wpList Tryz.prog ops Q rest (a.put o.dst undef) W) : wpList Tryz.prog ops Q (o :: rest) a w :=
  wpList_store_mid hg 47 x y hop b 0 (r.cells L) hx hy hc.there Tryz.sizeRecY (by simp [Value.oneCell']) (h _ ⟨hc.set r L, only_setCellsY _ _ _ _⟩)
end
end Go.Proofs.YtpnbhddmdfcjdaaGreat
