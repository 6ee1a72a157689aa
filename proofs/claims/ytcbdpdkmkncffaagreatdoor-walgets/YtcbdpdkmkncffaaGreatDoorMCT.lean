/- What Open does of a log that stands whole in its first block. -/
import Derived.Test.YtcbdpdkmkncffaaGreatDoorRDec
import Derived.Test.YtcbdpdkmkncffaaGreatDoorMB
import Derived.Deep.RegionHeld3
import Derived.Laws.IdiomStrings
import Derived.Test.YtcbdpdkmkncffaaGreatDoorMAD
import Derived.Test.YtcbdpdkmkncffaaGreatDoorPShelf
import Derived.Test.YtcbdpdkmkncffaaGreatDoorWShelf
import Derived.BigQuiet
import Derived.Deep.Draws
namespace Go.Proofs.YtcbdpdkmkncffaaGreatDoor
open Go.RowKit

/-- A record and where its lists lie. -/
abbrev Lr := Rc × Loc
def rcl (z : Lr) : List Value := z.1.cl z.2
theorem rcl_len (z : Lr) : (rcl z).length = 16 := cl_len _ _
/-- Records that a slice at ao leads to, in block B. -/
structure Rls (w : World) (B : Nat) (ao : Option Addr) (l : List Lr) : Prop where
  at_ : 0 < l.length → ∃ o, ao = some ⟨B, o, none⟩ ∧ ∀ j (h : j < l.length), w.rangeAt B (o + j * 16) (rcl l[j])
  each : ∀ z ∈ l, RcAt w z.1 z.2
  len : l.length * 216 ≤ 140737488351232
theorem range_go {S : Nat → Prop} {w w' : World} {b o : Nat} {cs : List Value} (h : w.rangeAt b o cs) (ho : Only S w w') (hS : ¬ S b) : w'.rangeAt b o cs := fun j v hv => by
  have h1 := h j v hv
  exact (ho.cell (p := ⟨b, o + j, none⟩) (World.block_lt_of_cell? w _ h1) hS).trans h1
theorem Rls.more {w w' : World} {B : Nat} {ao : Option Addr} {l : List Lr} (h : Rls w B ao l) (ho : Only (fun _ => False) w w') : Rls w' B ao l :=
  ⟨fun h0 => by
    obtain ⟨o, e, hc⟩ := h.at_ h0
    exact ⟨o, e, fun j hj => range_go (hc j hj) ho (fun h => h)⟩, fun z hz => (h.each z hz).go ho, h.len⟩
/-- Records that the value v owns. -/
def Ow (w : World) (base : Nat) (v : Value) (l : List Lr) : Prop := w.ownsRow base 37 16 v l.length (l.flatMap rcl)
theorem Ow.kept {S : Nat → Prop} {w w' : World} {base : Nat} {v : Value} {l : List Lr} (h : Ow w base v l) (ho : Only S w w') (hS : ∀ k, base ≤ k → ¬ S k) : Ow w' base v l :=
  own_kept h ho (fun b hb => hS b (World.ownsRow.lt h b hb).1)
theorem Ow.more {w w' : World} {base : Nat} {v : Value} {l : List Lr} (h : Ow w base v l) (ho : Only (fun _ => False) w w') : Ow w' base v l := own_kept h ho (fun _ _ h => h)
theorem Ow.nil (w : World) (base : Nat) : Ow w base (.slice none 0 0) [] := World.ownsRow_nil _ _ _ _
theorem Ow.form {w : World} {base : Nat} {v : Value} {l : List Lr} (h : Ow w base v l) : (v = .slice none 0 0 ∧ l = []) ∨ ∃ g cap, v = .slice (some ⟨g, 0, none⟩) l.length cap ∧ base ≤ g ∧ (∀ j (hj : j < l.length), w.rangeAt g (j * 16) (rcl l[j])) := by
  rcases own_form h with ⟨rfl, h0⟩ | ⟨g, cap, rfl, hb, hg, h1, h2⟩
  · exact .inl ⟨rfl, List.eq_nil_of_length_eq_zero h0⟩
  · refine .inr ⟨g, cap, rfl, hb, fun j hj i u hu => ?_⟩
    have hi : i < 16 := by
      have := (List.getElem?_eq_some_iff.1 hu).1
      rwa [rcl_len] at this
    exact own_cell h (j * 16 + i) u (by rw [flat_at rcl 16 rcl_len l j i hj hi]; exact hu)
theorem Tryz.infoRec : (Tryz.prog.info? 37).map (fun i => (i.zero, i.size, i.bytes)) = some (some (.agg (Rc.none.cells Loc.none)), 16, 216) := by kernel_rfl
theorem append_rec (w : World) (ty : TypeId) (base : Nat) (v : Value) (l : List Lr) (h : Ow w base v l) (z : Lr) (hroom : (l.length + 1) * 216 ≤ 140737488355328) (hbase : base ≤ w.heap.size) :
    ∃ v' w', (Builtin.append_ #[49, 49] ty #[v, .slice (some ⟨w.heap.size, 0, none⟩) 1 1]).run Tryz.prog (w.alloc (.cells (z.1.cells z.2) 37)) = .ok v' w' ∧ Ow w' base v' (l ++ [z]) ∧ Only (fun k => base ≤ k) w w' := by
  obtain ⟨i0, hi, hz0, hz1, hz2⟩ := info_parts Tryz.infoRec
  have hA := onlyA w (.cells (z.1.cells z.2) 37)
  have h' := own_kept h hA (fun _ _ h => h)
  obtain ⟨v', w', hr, h2, h3, _, h5⟩ := run_append_own_at (P := Tryz.prog) _ base 49 ty 37 i0 (.agg (Rc.none.cells Loc.none)) 16 216 Tryz.underlying49 hi hz0 hz1 hz2 rfl (by decide) v l.length _ h' ⟨w.heap.size, 0, none⟩ 1 1 (rcl z) (rcl_len z)
    (fun j u hu => by
      have := range_new w z.1 z.2 j u hu
      rwa [add_at]) (by intro u hu; simp [rcl, Rc.cl] at hu; rcases hu with rfl | rfl | rfl | rfl | rfl | rfl | rfl | rfl | rfl | rfl | rfl | rfl | rfl | rfl | rfl | rfl <;> rfl) (by unfold maxLen; omega) (by omega) (by simp; omega)
  refine ⟨v', w', hr, ?_, (Only.alloc (fun k => base ≤ k) w _).trans (Only.grown (S := fun k => base ≤ k) h3 (fun k hk => (World.ownsRow.lt h' k hk).1)) (fun _ _ h => h)⟩
  have e : l.length + 1 = (l ++ [z]).length := by simp
  have e2 : (l ++ [z]).flatMap rcl = l.flatMap rcl ++ rcl z := by simp
  unfold Ow
  rw [e2, ← e]
  exact h2
theorem run_bs_rec (w : World) (r : Rc) (L : Loc) : (Instr.buildSlice 49 1 #[(0, .agg (r.cells L))]).run Tryz.prog w = .ok (.slice (some ⟨w.heap.size, 0, none⟩) 1 1) (w.alloc (.cells (r.cells L) 37)) := by
  go_simp
end Go.Proofs.YtcbdpdkmkncffaaGreatDoor
namespace Go.Proofs.YtcbdpdkmkncffaaGreatDoor
open Go.ChangeShapes Go.WideShapes Go.ChangeAt Go.RowKit Go.Deep

def encs (l : List Lr) : List UInt8 := (l.map fun z => z.1.enc).flatten
theorem encs_snoc (l : List Lr) (z : Lr) : encs (l ++ [z]) = encs l ++ z.1.enc := by simp [encs]
theorem encs_cons (l : List Lr) (z : Lr) : encs (z :: l) = z.1.enc ++ encs l := by simp [encs]
section
variable {ops : Array Oper} {rest : List Oper} {o : Oper} {a : Act} {w : World} {Q : Exit → Act → World → Prop}
theorem wpList_load_rc (hg : o.guard = none) (x : Operand) (hop : o.op = .load 37 x) (b off : Nat) (hx : a.eval x = .pointer (some ⟨b, off, none⟩)) (z : Lr) (hc : w.rangeAt b off (rcl z))
    (h : wpList Tryz.prog ops Q rest (a.put o.dst (.agg (z.1.cells z.2))) w) : wpList Tryz.prog ops Q (o :: rest) a w :=
  wpList_load_mid hg 37 x hop b off hx (rcl z) _ hc Tryz.underlying37 rfl Tryz.sizeRec h
end
end Go.Proofs.YtcbdpdkmkncffaaGreatDoor

namespace Go.Proofs.YtcbdpdkmkncffaaGreatDoor
open Go.RowKit

theorem Bx.range {w : World} {b : Nat} {q : Rc} {L : Loc} (h : Bx w b q L) : w.rangeAt b 0 (q.cl L) := by
  intro j v hv
  have hj : j < 16 := (List.getElem?_eq_some_iff.1 hv).1
  rw [Nat.zero_add]
  match j, hj, hv with
  | 0, _, hv => injection hv with hv; subst hv; exact h.c0
  | 1, _, hv => injection hv with hv; subst hv; exact h.c1
  | 2, _, hv => injection hv with hv; subst hv; exact h.c2
  | 3, _, hv => injection hv with hv; subst hv; exact h.c3
  | 4, _, hv => injection hv with hv; subst hv; exact h.c4
  | 5, _, hv => injection hv with hv; subst hv; exact h.c5
  | 6, _, hv => injection hv with hv; subst hv; exact h.c6
  | 7, _, hv => injection hv with hv; subst hv; exact h.c7
  | 8, _, hv => injection hv with hv; subst hv; exact h.c8
  | 9, _, hv => injection hv with hv; subst hv; exact h.c9
  | 10, _, hv => injection hv with hv; subst hv; exact h.c10
  | 11, _, hv => injection hv with hv; subst hv; exact h.c11
  | 12, _, hv => injection hv with hv; subst hv; exact h.c12
  | 13, _, hv => injection hv with hv; subst hv; exact h.c13
  | 14, _, hv => injection hv with hv; subst hv; exact h.c14
  | 15, _, hv => injection hv with hv; subst hv; exact h.c15
/-- A log with a record more. -/
def Lg.app (G : Lg) (e : List UInt8) : Lg := { G with tail := G.tail + e.length, stream := G.stream ++ e, places := G.places ++ [(G.tail : Int)] }
/-- A record at a place. -/
def Rc.at_ (r : Rc) (t : Int) : Rc := { r with lsn := t }
theorem box_at (w : World) (r : Rc) (L : Loc) (t : Int) : Bx ((w.alloc (.cells (r.cells L) 37)).setCell ⟨w.heap.size, 0, none⟩ (.int .i64 t)) w.heap.size (r.at_ t) L := by
  have h := Bx.new w r L
  have k : ∀ (j : Nat) (v : Value), j ≠ 0 → (w.alloc (.cells (r.cells L) 37)).cell? ⟨w.heap.size, j, none⟩ = some v → ((w.alloc (.cells (r.cells L) 37)).setCell ⟨w.heap.size, 0, none⟩ (.int .i64 t)).cell? ⟨w.heap.size, j, none⟩ = some v := fun j v hj hc =>
    (World.cell?_setCell_other _ _ _ _ (by intro e; injection e with _ e; exact hj e.symm)).trans hc
  exact ⟨World.cell?_setCell_same _ _ _ h.c0, k _ _ (by decide) h.c1, k _ _ (by decide) h.c2, k _ _ (by decide) h.c3, k _ _ (by decide) h.c4, k _ _ (by decide) h.c5, k _ _ (by decide) h.c6, k _ _ (by decide) h.c7, k _ _ (by decide) h.c8, k _ _ (by decide) h.c9, k _ _ (by decide) h.c10, k _ _ (by decide) h.c11, k _ _ (by decide) h.c12, k _ _ (by decide) h.c13, k _ _ (by decide) h.c14, k _ _ (by decide) h.c15, by simp⟩
theorem RcAt.at_ {w : World} {r : Rc} {L : Loc} (h : RcAt w r L) (t : Int) : RcAt w (r.at_ t) L := ⟨h.slots, h.more, h.images, h.pages, h.txns, h.f1, h.f2, h.data, h.kind⟩
theorem LogOw.places_ {W W' : World} {l d : Nat} {G : Lg} {base : Nat} {v7 v8 v9 : Value} (h : LogOw W l d G base v7 v8) (z : Int) (ho : Only (fun k => some k = v8.ownBlock) W W') (hp : W'.ownsRow base 3 1 v9 (G.places ++ [z]).length ((G.places ++ [z]).map (Value.int .i64))) (hb : ∀ k, v9.ownBlock = some k → v8.ownBlock = some k ∨ W.heap.size ≤ k) :
    LogOw (W'.setCell ⟨l, 8, none⟩ v9) l d { G with places := G.places ++ [z] } base v7 v9 ∧ Only (fun k => k = l ∨ some k = v8.ownBlock) W (W'.setCell ⟨l, 8, none⟩ v9) := by
  have hl : ¬ (some l = v8.ownBlock) := fun e => h.n2 e.symm
  have h7 : ∀ k, v7.ownBlock = some k → ¬ (some k = v8.ownBlock) := fun k e e2 => h.n3 k e e2.symm
  have kc : ∀ (j : Nat) (v : Value), W.cell? ⟨l, j, none⟩ = some v → W'.cell? ⟨l, j, none⟩ = some v := fun j v hj => (ho.cell (p := ⟨l, j, none⟩) h.lt hl).trans hj
  have k : ∀ (j : Nat) (v : Value), j ≠ 8 → W.cell? ⟨l, j, none⟩ = some v → (W'.setCell ⟨l, 8, none⟩ v9).cell? ⟨l, j, none⟩ = some v := fun j v hj hc =>
    (World.cell?_setCell_other _ _ _ _ (by intro e; injection e with _ e; exact hj e.symm)).trans (kc _ _ hc)
  have o2' : Only (fun i => i = l) W' (W'.setCell ⟨l, 8, none⟩ v9) := Only.setCell (S := fun i => i = l) _ _ _ rfl
  have n2 : v9.ownBlock ≠ some l := fun e => by
    rcases hb l e with e | e
    · exact h.n2 e
    · have := h.lt; omega
  refine ⟨⟨k _ _ (by decide) h.c0, k _ _ (by decide) h.c1, k _ _ (by decide) h.c2, k _ _ (by decide) h.c3, k _ _ (by decide) h.c4, k _ _ (by decide) h.c5, k _ _ (by decide) h.c6, k _ _ (by decide) h.c7, World.cell?_setCell_same _ _ _ (kc _ _ h.c8), fun j => ?_, ?_, (h.row.kept ho h7).kept o2' (fun k e e2 => ?_), own_only hp o2' (fun k e e2 => ?_), h.n1, n2, fun k e e2 => ?_⟩, (ho.mono (T := fun k => k = l ∨ some k = v8.ownBlock) (fun _ _ h => .inr h)).trans o2' (fun _ _ h => .inl h)⟩
  · have := (ho.frozen (p := ⟨l, j, none⟩) h.lt hl).trans (h.fz j)
    simpa using this
  · have := Nat.lt_of_lt_of_le h.lt ho.size
    simpa using this
  · subst e2; exact h.n1 e
  · subst e2; exact n2 e
  · rcases hb k e2 with e3 | e3
    · exact h.n3 k e e3
    · have := h.row.lt k e; omega
theorem LogOw.stream_ {W W' : World} {l d : Nat} {G : Lg} {base : Nat} {v7 v8 v9 : Value} (h : LogOw W l d G base v7 v8) (E : List UInt8) (ho : Only (fun k => some k = v7.ownBlock) W W') (hp : W'.ownsRow base 5 1 v9 (G.stream ++ E).length (cells (G.stream ++ E))) (hb : ∀ k, v9.ownBlock = some k → v7.ownBlock = some k ∨ W.heap.size ≤ k) :
    LogOw (W'.setCell ⟨l, 7, none⟩ v9) l d { G with stream := G.stream ++ E } base v9 v8 ∧ Only (fun k => k = l ∨ some k = v7.ownBlock) W (W'.setCell ⟨l, 7, none⟩ v9) := by
  have hl : ¬ (some l = v7.ownBlock) := fun e => h.n1 e.symm
  have h8 : ∀ k, v8.ownBlock = some k → ¬ (some k = v7.ownBlock) := fun k e e2 => h.n3 k e2.symm e
  have kc : ∀ (j : Nat) (v : Value), W.cell? ⟨l, j, none⟩ = some v → W'.cell? ⟨l, j, none⟩ = some v := fun j v hj => (ho.cell (p := ⟨l, j, none⟩) h.lt hl).trans hj
  have k : ∀ (j : Nat) (v : Value), j ≠ 7 → W.cell? ⟨l, j, none⟩ = some v → (W'.setCell ⟨l, 7, none⟩ v9).cell? ⟨l, j, none⟩ = some v := fun j v hj hc =>
    (World.cell?_setCell_other _ _ _ _ (by intro e; injection e with _ e; exact hj e.symm)).trans (kc _ _ hc)
  have o2' : Only (fun i => i = l) W' (W'.setCell ⟨l, 7, none⟩ v9) := Only.setCell (S := fun i => i = l) _ _ _ rfl
  have n1 : v9.ownBlock ≠ some l := fun e => by
    rcases hb l e with e | e
    · exact h.n1 e
    · have := h.lt; omega
  have hr : Row W' base v9 v9.ownBlock (G.stream ++ E) := ⟨hp, rfl⟩
  refine ⟨⟨k _ _ (by decide) h.c0, k _ _ (by decide) h.c1, k _ _ (by decide) h.c2, k _ _ (by decide) h.c3, k _ _ (by decide) h.c4, k _ _ (by decide) h.c5, k _ _ (by decide) h.c6, World.cell?_setCell_same _ _ _ (kc _ _ h.c7), k _ _ (by decide) h.c8, fun j => ?_, ?_, hr.kept o2' (fun k e e2 => ?_), own_only (own_only h.pl ho h8) o2' (fun k e e2 => ?_), n1, h.n2, fun k e e2 => ?_⟩, (ho.mono (T := fun k => k = l ∨ some k = v7.ownBlock) (fun _ _ h => .inr h)).trans o2' (fun _ _ h => .inl h)⟩
  · have := (ho.frozen (p := ⟨l, j, none⟩) h.lt hl).trans (h.fz j)
    simpa using this
  · have := Nat.lt_of_lt_of_le h.lt ho.size
    simpa using this
  · subst e2; exact n1 e
  · subst e2; exact h.n2 e
  · rcases hb k e with e3 | e3
    · exact h.n3 k e3 e2
    · have := (World.ownsRow.lt h.pl k e2).2; omega
theorem LogOw.tail_ {W : World} {l d : Nat} {G : Lg} {base : Nat} {v7 v8 : Value} (h : LogOw W l d G base v7 v8) (t : Nat) :
    LogOw (W.setCell ⟨l, 4, none⟩ (.int .i64 (t : Int))) l d { G with tail := t } base v7 v8 ∧ Only (fun k => k = l) W (W.setCell ⟨l, 4, none⟩ (.int .i64 (t : Int))) := by
  have k : ∀ (j : Nat) (v : Value), j ≠ 4 → W.cell? ⟨l, j, none⟩ = some v → (W.setCell ⟨l, 4, none⟩ (.int .i64 (t : Int))).cell? ⟨l, j, none⟩ = some v := fun j v hj hc =>
    (World.cell?_setCell_other _ _ _ _ (by intro e; injection e with _ e; exact hj e.symm)).trans hc
  have o2' : Only (fun i => i = l) W (W.setCell ⟨l, 4, none⟩ (.int .i64 (t : Int))) := Only.setCell (S := fun i => i = l) _ _ _ rfl
  refine ⟨⟨k _ _ (by decide) h.c0, k _ _ (by decide) h.c1, k _ _ (by decide) h.c2, k _ _ (by decide) h.c3, World.cell?_setCell_same _ _ _ h.c4, k _ _ (by decide) h.c5, k _ _ (by decide) h.c6, k _ _ (by decide) h.c7, k _ _ (by decide) h.c8, fun j => by simpa using h.fz j, by simpa using h.lt, h.row.kept o2' (fun k e e2 => ?_), own_only h.pl o2' (fun k e e2 => ?_), h.n1, h.n2, h.n3⟩, o2'⟩
  · subst e2; exact h.n1 e
  · subst e2; exact h.n2 e
end Go.Proofs.YtcbdpdkmkncffaaGreatDoor

namespace Go.Proofs.YtcbdpdkmkncffaaGreatDoor
open Go.RowKit

theorem one_at (W : World) (x : Value) (t : TypeId) : (W.alloc (.cells #[x] t)).cell? ⟨W.heap.size, 0, none⟩ = some x := by simp
theorem own_slice {w : World} {base n : Nat} {e : TypeId} {v : Value} {xs : List Value} (h : w.ownsRow base e 1 v n xs) : ∃ ao ln cp, v = .slice ao ln cp := by
  rcases h.2 with ⟨rfl, _⟩ | ⟨g, cap, cur, rfl, _⟩
  · exact ⟨_, _, _, rfl⟩
  · exact ⟨_, _, _, rfl⟩
set_option maxRecDepth 100000 in
set_option maxHeartbeats 1600000 in
theorem append_ok (w : World) (l d : Nat) (G : Lg) (base : Nat) (v7 v8 : Value) (h : LogOw w l d G base v7 v8) (ok : G.Ok) (hbase : base ≤ w.heap.size) (r : Rc) (L : Loc) (hr : RcAt w r L) (hv : (r.at_ G.tail).valid) (hroom : (r.at_ G.tail).enc.length ≤ G.room) (hpl : G.places.length ≤ 1000000000) :
    Calls Tryz.prog 10 #[.pointer (some ⟨l, 0, none⟩), .agg (r.cells L)] w fun e w' =>
      e = .returned (.tuple #[.int .i64 (G.tail : Int), .int .i64 0]) ∧ ∃ v7' v8', LogOw w' l d (G.app (r.at_ G.tail).enc) base v7' v8' ∧ Only (fun k => k = l ∨ some k = v7.ownBlock ∨ some k = v8.ownBlock) w w' ∧ (∀ k, v7'.ownBlock = some k → v7.ownBlock = some k ∨ w.heap.size ≤ k) ∧ (∀ k, v8'.ownBlock = some k → v8.ownBlock = some k ∨ w.heap.size ≤ k) := by
  obtain ⟨i0, hi, hz0, hz1, hz2⟩ := info_parts Tryz.infoByte
  have hrq : RcAt w (r.at_ (G.tail : Int)) L := hr.at_ _
  have hQ : Calls Tryz.prog 25 #[.agg ((r.at_ (G.tail : Int)).cells L)] (w.alloc (.cells ((r.at_ (G.tail : Int)).cells L) 37)) fun e w' => e = .returned (.tuple #[.string (str (r.at_ (G.tail : Int)).enc), .int .i64 0]) ∧ Only (fun _ => False) w w' ∧ w'.cell? ⟨w.heap.size, 0, none⟩ = some (.int .i64 (G.tail : Int)) :=
    (rencode_any _ _ L (hrq.go (onlyA w _))).mono (fun e w' hx => ⟨hx.ok hv, o2 (onlyA w _) hx.only, ((Bx.new w (r.at_ (G.tail : Int)) L).more hx.only).c0⟩)
  have HQ := hide hQ
  obtain ⟨E, hE⟩ : ∃ E, (r.at_ (G.tail : Int)).enc = E := ⟨_, rfl⟩
  rw [hE] at HQ hroom ⊢
  obtain ⟨N, hN⟩ : ∃ N, str E = N := ⟨_, rfl⟩
  have hNs : N.size = E.length := by rw [← hN, str_size]
  have hNd : N.data.toList = E := by rw [← hN]; show E.toArray.toList = _; simp
  rw [hN] at HQ
  obtain ⟨b, hb⟩ : ∃ b, w.heap.size = b := ⟨_, rfl⟩
  have c4 := h.c4
  have c4' : ∀ o, (w.alloc o).cell? ⟨l, 4, none⟩ = some (.int .i64 (G.tail : Int)) := fun o => (h.more (onlyA w _)).c4
  have HL := hide h
  have hrl : G.room ≤ 4000000 := by unfold Lg.room; have := ok.nb; omega
  obtain ⟨rm, hrm⟩ : ∃ rm, G.room = rm := ⟨_, rfl⟩
  have HRM := hide (fun W (hW : LogOw W l d G base v7 v8) => by
    obtain ⟨B, ao, cp, _, hA, _⟩ := hW.at_
    exact room_any W l d G B ao cp v8 hA ok)
  rw [hrm] at HRM hroom hrl
  have i1 : ¬ (rm : Int) < (N.size : Int) := by omega
  have i2 : (N.size : Int) ≤ 4000000 := by omega
  have i3 : (G.tail : Int) < 1099511627776 := by have := ok.big; omega
  have HI2 : Hid (True → (N.size : Int) ≤ 4000000 ∧ (G.tail : Int) < 1099511627776 ∧ G.stream.length < 1099511627776) := fun _ => ⟨i2, i3, ok.ln⟩
  have HNS := hide hNs
  have HND := hide hNd
  have HPL : Hid (True → G.places.length ≤ 1000000000) := fun _ => hpl
  have HBASE := hide hbase
  have HOK := hide ok
  clear h hr hrq hQ hv hE hN hNs hNd hrm hrl hroom hpl hbase ok i2 i3
  go_enter Tryz.func10, Tryz.ntmps10
  go_wp2_with fail
  refine Calls.mono HQ.out ?_
  rintro e w2 ⟨rfl, ho2, hb2⟩
  have HL2 := hide (HL.out.more ho2)
  have HO2 := hide ho2
  have HB2 := hide hb2
  clear ho2 hb2 c4 c4'
  go_wp2_with fail
  refine (HRM.out _ HL2.out).mono ?_
  rintro e w3 ⟨rfl, ho3⟩
  have HL3 := hide (HL2.out.more ho3)
  have hO3 := o2 HO2.out ho3
  have hb3 : w3.cell? ⟨b, 0, none⟩ = some (.int .i64 (G.tail : Int)) := by
    rw [← hb]
    exact (ho3.cell (p := ⟨w.heap.size, 0, none⟩) (World.block_lt_of_cell? _ _ HB2.out) (fun h => h)).trans HB2.out
  have HO3 := hide hO3
  have d4 := HL3.out.c4
  have d8 := HL3.out.c8
  clear ho3 hO3 HL2 HO2 HB2
  have HB3 : Hid (base ≤ w3.heap.size) := Nat.le_trans HBASE.out HO3.out.size
  have g8 : ∀ o, (w3.drew.alloc o).cell? ⟨l, 8, none⟩ = some v8 := fun o => (HL3.out.more (o2 (Only.drew _ w3) (onlyA _ _))).c8
  have g9 : ∀ o, (w3.alloc o).cell? ⟨l, 8, none⟩ = some v8 := fun o => (HL3.out.more (onlyA _ _)).c8
  go_upto_region 9 with fail
  refine wp_region_noPanic ?_
  refine wp_region_held_drew (S := fun W => W.cell? ⟨l, 4, none⟩ = some (.int .i64 (G.tail : Int))) (by kernel_rfl) (by simpa using d4) (fun hHeld => ?_)
  refine wpAnyH_take (i := 0) (oi := { dst := some 28, op := Op.move (Operand.tmp 0), type := 27, pos := "wal.go:131", after := #[], guard := none }) (v := .pointer (some ⟨l, 0, none⟩)) rfl (by kernel_rfl) (by kernel_rfl) (by kernel_rfl) (fun _ _ _ h => h) (Or.inl ⟨by rfl, fun w' hSw => by clear hSw; go_simp⟩) (by assumption) ?_
  simp only [Act.put, List.setIfInBounds_toArray, List.set_cons_zero, List.set_cons_succ]
  refine wpAnyH_take (i := 1) (oi := { dst := some 29, op := Op.move (Operand.tmp 0), type := 27, pos := "wal.go:131", after := #[], guard := none }) (v := .pointer (some ⟨l, 0, none⟩)) rfl (by kernel_rfl) (by kernel_rfl) (by kernel_rfl) (fun _ _ _ h => h) (Or.inl ⟨by rfl, fun w' hSw => by clear hSw; go_simp⟩) (by assumption) ?_
  simp only [Act.put, List.setIfInBounds_toArray, List.set_cons_zero, List.set_cons_succ]
  refine wpAnyH_take (i := 5) (oi := { dst := some 33, op := Op.move (Operand.tmp 0), type := 27, pos := "wal.go:131", after := #[], guard := none }) (v := .pointer (some ⟨l, 0, none⟩)) rfl (by kernel_rfl) (by kernel_rfl) (by kernel_rfl) (fun _ _ _ h => h) (Or.inl ⟨by rfl, fun w' hSw => by clear hSw; go_simp⟩) (by assumption) ?_
  simp only [Act.put, List.setIfInBounds_toArray, List.set_cons_zero, List.set_cons_succ]
  refine wpAnyH_take (i := 2) (oi := { dst := some 30, op := Op.nilCheck (Operand.tmp 29), type := 0, pos := "wal.go:131", after := #[{ on := 1, ground := Ground.data }], guard := none }) (v := .pointer (some ⟨l, 0, none⟩)) rfl (by kernel_rfl) (by kernel_rfl) (by kernel_rfl) (fun _ _ _ h => h) (Or.inl ⟨by rfl, fun w' hSw => by clear hSw; go_simp⟩) (by assumption) ?_
  simp only [Act.put, List.setIfInBounds_toArray, List.set_cons_zero, List.set_cons_succ]
  refine wpAnyH_take (i := 6) (oi := { dst := some 34, op := Op.nilCheck (Operand.tmp 33), type := 0, pos := "wal.go:131", after := #[{ on := 5, ground := Ground.data }], guard := none }) (v := .pointer (some ⟨l, 0, none⟩)) rfl (by kernel_rfl) (by kernel_rfl) (by kernel_rfl) (fun _ _ _ h => h) (Or.inl ⟨by rfl, fun w' hSw => by clear hSw; go_simp⟩) (by assumption) ?_
  simp only [Act.put, List.setIfInBounds_toArray, List.set_cons_zero, List.set_cons_succ]
  refine wpAnyH_take (i := 3) (oi := { dst := some 31, op := Op.fieldAddr 62 (Operand.tmp 30) 8, type := 0, pos := "wal.go:131", after := #[{ on := 2, ground := Ground.data }], guard := none }) (v := .pointer (some ⟨l, 8, none⟩)) rfl (by kernel_rfl) (by kernel_rfl) (by kernel_rfl) (fun _ _ _ h => h) (Or.inl ⟨by rfl, fun w' hSw => by clear hSw; go_simp⟩) (by assumption) ?_
  simp only [Act.put, List.setIfInBounds_toArray, List.set_cons_zero, List.set_cons_succ]
  refine wpAnyH_take (i := 7) (oi := { dst := some 35, op := Op.fieldAddr 62 (Operand.tmp 34) 4, type := 0, pos := "wal.go:131", after := #[{ on := 6, ground := Ground.data }], guard := none }) (v := .pointer (some ⟨l, 4, none⟩)) rfl (by kernel_rfl) (by kernel_rfl) (by kernel_rfl) (fun _ _ _ h => h) (Or.inl ⟨by rfl, fun w' hSw => by clear hSw; go_simp⟩) (by assumption) ?_
  simp only [Act.put, List.setIfInBounds_toArray, List.set_cons_zero, List.set_cons_succ]
  refine wpAnyH_take (i := 8) (oi := { dst := some 36, op := Op.load 3 (Operand.tmp 35), type := 3, pos := "wal.go:131", after := #[{ on := 7, ground := Ground.data }], guard := none }) (v := .int .i64 (G.tail : Int)) rfl (by kernel_rfl) (by kernel_rfl) (by kernel_rfl) (fun _ _ _ h => h) (yieldsIf_load_cell (by rfl) 3 _ rfl _ rfl (fun W hW => hW) (fun W hc => ld_int hc)) (by assumption) ?_
  simp only [Act.put, List.setIfInBounds_toArray, List.set_cons_zero, List.set_cons_succ]
  refine wpAnyH_ready (rs := [4, 9]) (by kernel_rfl) (by simp) ?_
  refine AllReadyH.cons (o := { dst := some 32, op := Op.load 32 (Operand.tmp 31), type := 32, pos := "wal.go:131", after := #[{ on := 3, ground := Ground.data }], guard := none }) rfl (fun K hK => ?_) (AllReadyH.cons (o := { dst := some 37, op := Op.buildSlice 32 1 #[(0, Operand.tmp 36)], type := 32, pos := "wal.go:131", after := #[{ on := 8, ground := Ground.data }], guard := none }) rfl (fun K hK => ?_) (AllReadyH.nil))
  · go_simp
    refine hK.out _ _ (hHeld) (fun hHeld => ?_)
    clear hK K
    try simp only [Act.put, List.setIfInBounds_toArray, List.set_cons_zero, List.set_cons_succ]
    refine wpAnyH_ready (rs := [9]) (by kernel_rfl) (by simp) ?_
    refine AllReadyH.cons (o := { dst := some 37, op := Op.buildSlice 32 1 #[(0, Operand.tmp 36)], type := 32, pos := "wal.go:131", after := #[{ on := 8, ground := Ground.data }], guard := none }) rfl (fun K hK => ?_) (AllReadyH.nil)
    go_simp
    refine hK.out _ _ ((HL3.out.more (o2 (Only.drew _ w3) (onlyA _ _))).c4) (fun hHeld => ?_)
    clear hK K
    try simp only [Act.put, List.setIfInBounds_toArray, List.set_cons_zero, List.set_cons_succ]
    refine wpAnyH_ready (rs := [10]) (by kernel_rfl) (by simp) ?_
    refine AllReadyH.cons (o := { dst := some 38, op := Op.call { callee := Callee.builtin Builtin.append, args := #[Operand.tmp 32, Operand.tmp 37], argTypes := #[32, 32] }, type := 32, pos := "wal.go:131", after := #[{ on := 4, ground := Ground.data }, { on := 9, ground := Ground.data }], guard := none }) rfl (fun K hK => ?_) (AllReadyH.nil)
    obtain ⟨v9, w4, hap, ow4, on4, bl4⟩ := append_place w3 32 base v8 G.places HL3.out.pl (G.tail : Int) (HPL.out trivial) HB3.out (w3.drew.alloc (.cells #[.int .i64 (G.tail : Int)] 3)) (o2 (Only.drew _ w3) (onlyA _ _)) w3.heap.size (one_at w3.drew _ _)
    obtain ⟨ao9, n9, c9, rfl⟩ := own_slice ow4
    have X4 := hide ((on4.cell (p := ⟨l, 4, none⟩) HL3.out.lt (fun h => HL3.out.n2 h.symm)).trans HL3.out.c4)
    have e8 := (on4.cell (p := ⟨l, 8, none⟩) HL3.out.lt (fun h => HL3.out.n2 h.symm)).trans HL3.out.c8
    have f8 := (on4.frozen (p := ⟨l, 8, none⟩) HL3.out.lt (fun h => HL3.out.n2 h.symm)).trans (HL3.out.fz 8)
    have X4S : Hid (∀ u, (w4.setCell ⟨l, 8, none⟩ u).cell? ⟨l, 4, none⟩ = some (.int .i64 (G.tail : Int))) := fun u => (World.cell?_setCell_other _ _ _ _ (by intro e; injection e with _ e; cases e)).trans X4.out
    have OW4 := hide ow4
    have ON4 := hide on4
    have BL4 := hide bl4
    have HAP := hide hap
    clear ow4 on4 bl4 hap
    rw [if_pos (by rfl)]
    refine Lib.wp_append_run _ (.tmp 32) (.tmp 37) _ _ rfl _ _ rfl rfl _ _ HAP.out ?_
    refine hK.out _ _ (X4.out) (fun hHeld => ?_)
    clear hK K
    try simp only [Act.put, List.setIfInBounds_toArray, List.set_cons_zero, List.set_cons_succ]
    refine wpAnyH_take (i := 11) (oi := { dst := some 39, op := Op.nilCheck (Operand.tmp 28), type := 0, pos := "wal.go:131", after := #[{ on := 0, ground := Ground.data }, { on := 0, ground := Ground.phase }, { on := 1, ground := Ground.phase }, { on := 2, ground := Ground.phase }, { on := 3, ground := Ground.phase }, { on := 4, ground := Ground.phase }, { on := 5, ground := Ground.phase }, { on := 6, ground := Ground.phase }, { on := 7, ground := Ground.phase }, { on := 8, ground := Ground.phase }, { on := 9, ground := Ground.phase }, { on := 10, ground := Ground.phase }], guard := none }) (v := .pointer (some ⟨l, 0, none⟩)) rfl (by kernel_rfl) (by kernel_rfl) (by kernel_rfl) (fun _ _ _ h => h) (Or.inl ⟨by rfl, fun w' hSw => by clear hSw; go_simp⟩) (by assumption) ?_
    simp only [Act.put, List.setIfInBounds_toArray, List.set_cons_zero, List.set_cons_succ]
    refine wpAnyH_take (i := 12) (oi := { dst := some 40, op := Op.fieldAddr 62 (Operand.tmp 39) 8, type := 0, pos := "wal.go:131", after := #[{ on := 11, ground := Ground.data }, { on := 0, ground := Ground.phase }, { on := 1, ground := Ground.phase }, { on := 2, ground := Ground.phase }, { on := 3, ground := Ground.phase }, { on := 4, ground := Ground.phase }, { on := 5, ground := Ground.phase }, { on := 6, ground := Ground.phase }, { on := 7, ground := Ground.phase }, { on := 8, ground := Ground.phase }, { on := 9, ground := Ground.phase }, { on := 10, ground := Ground.phase }], guard := none }) (v := .pointer (some ⟨l, 8, none⟩)) rfl (by kernel_rfl) (by kernel_rfl) (by kernel_rfl) (fun _ _ _ h => h) (Or.inl ⟨by rfl, fun w' hSw => by clear hSw; go_simp⟩) (by assumption) ?_
    simp only [Act.put, List.setIfInBounds_toArray, List.set_cons_zero, List.set_cons_succ]
    refine wpAnyH_ready (rs := [13]) (by kernel_rfl) (by simp) ?_
    refine AllReadyH.cons (o := { dst := none, op := Op.store 32 (Operand.tmp 40) (Operand.tmp 38), type := 0, pos := "wal.go:131", after := #[{ on := 12, ground := Ground.data }, { on := 10, ground := Ground.data }, { on := 10, ground := Ground.chain }, { on := 0, ground := Ground.phase }, { on := 1, ground := Ground.phase }, { on := 2, ground := Ground.phase }, { on := 3, ground := Ground.phase }, { on := 4, ground := Ground.phase }, { on := 5, ground := Ground.phase }, { on := 6, ground := Ground.phase }, { on := 7, ground := Ground.phase }, { on := 8, ground := Ground.phase }, { on := 9, ground := Ground.phase }, { on := 10, ground := Ground.phase }], guard := none }) rfl (fun K hK => ?_) (AllReadyH.nil)
    go_simp
    refine hK.out _ _ (X4S.out _) (fun hHeld => ?_)
    clear hK K
    try simp only [Act.put, List.setIfInBounds_toArray, List.set_cons_zero, List.set_cons_succ]
    refine wpAnyH_done (by kernel_rfl) ?_ _
    refine NoPanic.normal ?_
    obtain ⟨hL5, hO5⟩ := HL3.out.places_ (G.tail : Int) ON4.out OW4.out (fun k e => by
      rcases BL4.out with e2 | e2
      · exact .inl (e2.symm.trans e)
      · right
        rw [e2] at e
        injection e with e
        rw [← e]
        simp)
    clear g8 g9 d8 e8 f8 hHeld
    obtain ⟨w5, hw5⟩ : ∃ W, w4.setCell ⟨l, 8, none⟩ (.slice ao9 n9 c9) = W := ⟨_, rfl⟩
    rw [hw5] at hL5 hO5 ⊢
    have HL5 := hide hL5
    have HO5 := hide hO5
    clear hL5 hO5 hw5
    have hNB : ∀ k, some k = v8.ownBlock → k < w.heap.size := fun k e => (World.ownsRow.lt HL.out.pl k e.symm).2
    have hNA : ∀ k, some k = v7.ownBlock → k < w.heap.size := fun k e => (HL.out.row.lt k e.symm).2
    have hbl : b ≠ l := by have := HL.out.lt; omega
    have hb8 : ¬ some b = v8.ownBlock := fun e => by have := hNB b e; omega
    have hb7 : ¬ some b = v7.ownBlock := fun e => by have := hNA b e; omega
    have hblt := World.block_lt_of_cell? _ _ hb3
    have hb5 := (HO5.out.cell (p := ⟨b, 0, none⟩) hblt (fun e => e.elim hbl hb8)).trans hb3
    obtain ⟨v10, w6, hap2, ow6, gr6, bl6⟩ := append_string (P := Tryz.prog) w5 base 60 9 60 5 i0 Tryz.underlying60 Tryz.underlying9 hi hz0 hz1 hz2 v7 G.stream.length (cells G.stream) HL5.out.row.own N (by have := HI2.out trivial; omega) (Nat.le_trans HB3.out HO5.out.size)
    obtain ⟨ao10, n10, c10, rfl⟩ := own_slice ow6
    have ow7 : w6.ownsRow base 5 1 (.slice ao10 n10 c10) (G.stream ++ E).length (cells (G.stream ++ E)) := by
      have e1 : (G.stream ++ E).length = G.stream.length + N.size := by rw [List.length_append, HNS.out]
      have e2 : cells (G.stream ++ E) = cells G.stream ++ Lib.strCells N := by rw [cells_append, ← HND.out]; rfl
      rw [e1, e2]
      exact ow6
    have on6 : Only (fun k => some k = v7.ownBlock) w5 w6 := Only.grown gr6 (fun k hk => hk.symm)
    have hl7 : ¬ some l = v7.ownBlock := fun e => HL5.out.n1 e.symm
    have e7 := (on6.cell (p := ⟨l, 7, none⟩) HL5.out.lt hl7).trans HL5.out.c7
    have f7 := (on6.frozen (p := ⟨l, 7, none⟩) HL5.out.lt hl7).trans (HL5.out.fz 7)
    obtain ⟨hL7, hO7⟩ := HL5.out.stream_ E on6 ow7 (fun k e => by
      rcases bl6 with e2 | e2
      · exact .inl (e2.symm.trans e)
      · right
        rw [e2] at e
        injection e with e
        exact Nat.le_of_eq e)
    have hb6 := (hO7.cell (p := ⟨b, 0, none⟩) (Nat.lt_of_lt_of_le hblt HO5.out.size) (fun e => e.elim hbl hb7)).trans hb5
    have p7 := HL5.out.c7
    have x4 := (on6.cell (p := ⟨l, 4, none⟩) HL5.out.lt hl7).trans HL5.out.c4
    have xf4 := (on6.frozen (p := ⟨l, 4, none⟩) HL5.out.lt hl7).trans (HL5.out.fz 4)
    have xb := (on6.cell (p := ⟨b, 0, none⟩) (Nat.lt_of_lt_of_le hblt HO5.out.size) hb7).trans hb5
    simp only at x4
    obtain ⟨T, hT⟩ : ∃ T, G.tail + E.length = T := ⟨_, rfl⟩
    have hT1 : (G.tail : Int) + (N.size : Int) = (T : Int) := by have := HNS.out; omega
    have hT2 : (T : Int) < 1099600000000 := by have := HI2.out trivial; omega
    have HT := hide hT
    have HAP2 := hide hap2
    have HL7 := hide hL7
    have HO7 := hide hO7
    have HB6 := hide hb6
    have BL6 := hide bl6
    have HBL := hide hbl
    clear hap2 hL7 hO7 ow6 ow7 gr6 bl6 on6 hNB hNA hb8 hb7 hb5 hb3 hb6 hl7 hblt hbl d4 hT
    try rw [Exit.then]
    go_wp2_with (at_builtin; go_must (refine Lib.wpList_append_run _ rfl (.tmp 45) (.tmp 46) _ _ rfl _ _ rfl rfl _ _ HAP2.out ?_))
    go_ret2
    obtain ⟨hL8, hO8⟩ := HL7.out.tail_ T
    have hg : { ({ ({ G with places := G.places ++ [(G.tail : Int)] } : Lg) with stream := G.stream ++ E } : Lg) with tail := T } = G.app E := by unfold Lg.app; rw [HT.out]
    rw [hg] at hL8
    refine ⟨rfl, _, _, hL8, ?_, fun k e => ?_, fun k e => ?_⟩
    · exact (((HO3.out.mono (T := fun k => k = l ∨ some k = v7.ownBlock ∨ some k = v8.ownBlock) (fun _ _ h => h.elim)).trans HO5.out (fun _ _ h => h.elim .inl (fun h => .inr (.inr h)))).trans HO7.out (fun _ _ h => h.elim .inl (fun h => .inr (.inl h)))).trans hO8 (fun _ _ h => .inl h)
    · rcases BL6.out with e2 | e2
      · exact .inl (e2.symm.trans e)
      · right
        rw [e2] at e
        injection e with e
        have := HO3.out.size
        have := HO5.out.size
        omega
    · rcases BL4.out with e2 | e2
      · exact .inl (e2.symm.trans e)
      · right
        rw [e2] at e
        injection e with e
        have := HO3.out.size
        rw [← e]
        simp
        omega
  · go_simp
    refine hK.out _ _ ((HL3.out.more (o2 (Only.drew _ w3) (onlyA _ _))).c4) (fun hHeld => ?_)
    clear hK K
    try simp only [Act.put, List.setIfInBounds_toArray, List.set_cons_zero, List.set_cons_succ]
    refine wpAnyH_ready (rs := [4]) (by kernel_rfl) (by simp) ?_
    refine AllReadyH.cons (o := { dst := some 32, op := Op.load 32 (Operand.tmp 31), type := 32, pos := "wal.go:131", after := #[{ on := 3, ground := Ground.data }], guard := none }) rfl (fun K hK => ?_) (AllReadyH.nil)
    go_simp
    refine hK.out _ _ (hHeld) (fun hHeld => ?_)
    clear hK K
    try simp only [Act.put, List.setIfInBounds_toArray, List.set_cons_zero, List.set_cons_succ]
    refine wpAnyH_ready (rs := [10]) (by kernel_rfl) (by simp) ?_
    refine AllReadyH.cons (o := { dst := some 38, op := Op.call { callee := Callee.builtin Builtin.append, args := #[Operand.tmp 32, Operand.tmp 37], argTypes := #[32, 32] }, type := 32, pos := "wal.go:131", after := #[{ on := 4, ground := Ground.data }, { on := 9, ground := Ground.data }], guard := none }) rfl (fun K hK => ?_) (AllReadyH.nil)
    obtain ⟨v9, w4, hap, ow4, on4, bl4⟩ := append_place w3 32 base v8 G.places HL3.out.pl (G.tail : Int) (HPL.out trivial) HB3.out (w3.drew.alloc (.cells #[.int .i64 (G.tail : Int)] 3)) (o2 (Only.drew _ w3) (onlyA _ _)) w3.heap.size (one_at w3.drew _ _)
    obtain ⟨ao9, n9, c9, rfl⟩ := own_slice ow4
    have X4 := hide ((on4.cell (p := ⟨l, 4, none⟩) HL3.out.lt (fun h => HL3.out.n2 h.symm)).trans HL3.out.c4)
    have e8 := (on4.cell (p := ⟨l, 8, none⟩) HL3.out.lt (fun h => HL3.out.n2 h.symm)).trans HL3.out.c8
    have f8 := (on4.frozen (p := ⟨l, 8, none⟩) HL3.out.lt (fun h => HL3.out.n2 h.symm)).trans (HL3.out.fz 8)
    have X4S : Hid (∀ u, (w4.setCell ⟨l, 8, none⟩ u).cell? ⟨l, 4, none⟩ = some (.int .i64 (G.tail : Int))) := fun u => (World.cell?_setCell_other _ _ _ _ (by intro e; injection e with _ e; cases e)).trans X4.out
    have OW4 := hide ow4
    have ON4 := hide on4
    have BL4 := hide bl4
    have HAP := hide hap
    clear ow4 on4 bl4 hap
    rw [if_pos (by rfl)]
    refine Lib.wp_append_run _ (.tmp 32) (.tmp 37) _ _ rfl _ _ rfl rfl _ _ HAP.out ?_
    refine hK.out _ _ (X4.out) (fun hHeld => ?_)
    clear hK K
    try simp only [Act.put, List.setIfInBounds_toArray, List.set_cons_zero, List.set_cons_succ]
    refine wpAnyH_take (i := 11) (oi := { dst := some 39, op := Op.nilCheck (Operand.tmp 28), type := 0, pos := "wal.go:131", after := #[{ on := 0, ground := Ground.data }, { on := 0, ground := Ground.phase }, { on := 1, ground := Ground.phase }, { on := 2, ground := Ground.phase }, { on := 3, ground := Ground.phase }, { on := 4, ground := Ground.phase }, { on := 5, ground := Ground.phase }, { on := 6, ground := Ground.phase }, { on := 7, ground := Ground.phase }, { on := 8, ground := Ground.phase }, { on := 9, ground := Ground.phase }, { on := 10, ground := Ground.phase }], guard := none }) (v := .pointer (some ⟨l, 0, none⟩)) rfl (by kernel_rfl) (by kernel_rfl) (by kernel_rfl) (fun _ _ _ h => h) (Or.inl ⟨by rfl, fun w' hSw => by clear hSw; go_simp⟩) (by assumption) ?_
    simp only [Act.put, List.setIfInBounds_toArray, List.set_cons_zero, List.set_cons_succ]
    refine wpAnyH_take (i := 12) (oi := { dst := some 40, op := Op.fieldAddr 62 (Operand.tmp 39) 8, type := 0, pos := "wal.go:131", after := #[{ on := 11, ground := Ground.data }, { on := 0, ground := Ground.phase }, { on := 1, ground := Ground.phase }, { on := 2, ground := Ground.phase }, { on := 3, ground := Ground.phase }, { on := 4, ground := Ground.phase }, { on := 5, ground := Ground.phase }, { on := 6, ground := Ground.phase }, { on := 7, ground := Ground.phase }, { on := 8, ground := Ground.phase }, { on := 9, ground := Ground.phase }, { on := 10, ground := Ground.phase }], guard := none }) (v := .pointer (some ⟨l, 8, none⟩)) rfl (by kernel_rfl) (by kernel_rfl) (by kernel_rfl) (fun _ _ _ h => h) (Or.inl ⟨by rfl, fun w' hSw => by clear hSw; go_simp⟩) (by assumption) ?_
    simp only [Act.put, List.setIfInBounds_toArray, List.set_cons_zero, List.set_cons_succ]
    refine wpAnyH_ready (rs := [13]) (by kernel_rfl) (by simp) ?_
    refine AllReadyH.cons (o := { dst := none, op := Op.store 32 (Operand.tmp 40) (Operand.tmp 38), type := 0, pos := "wal.go:131", after := #[{ on := 12, ground := Ground.data }, { on := 10, ground := Ground.data }, { on := 10, ground := Ground.chain }, { on := 0, ground := Ground.phase }, { on := 1, ground := Ground.phase }, { on := 2, ground := Ground.phase }, { on := 3, ground := Ground.phase }, { on := 4, ground := Ground.phase }, { on := 5, ground := Ground.phase }, { on := 6, ground := Ground.phase }, { on := 7, ground := Ground.phase }, { on := 8, ground := Ground.phase }, { on := 9, ground := Ground.phase }, { on := 10, ground := Ground.phase }], guard := none }) rfl (fun K hK => ?_) (AllReadyH.nil)
    go_simp
    refine hK.out _ _ (X4S.out _) (fun hHeld => ?_)
    clear hK K
    try simp only [Act.put, List.setIfInBounds_toArray, List.set_cons_zero, List.set_cons_succ]
    refine wpAnyH_done (by kernel_rfl) ?_ _
    refine NoPanic.normal ?_
    obtain ⟨hL5, hO5⟩ := HL3.out.places_ (G.tail : Int) ON4.out OW4.out (fun k e => by
      rcases BL4.out with e2 | e2
      · exact .inl (e2.symm.trans e)
      · right
        rw [e2] at e
        injection e with e
        rw [← e]
        simp)
    clear g8 g9 d8 e8 f8 hHeld
    obtain ⟨w5, hw5⟩ : ∃ W, w4.setCell ⟨l, 8, none⟩ (.slice ao9 n9 c9) = W := ⟨_, rfl⟩
    rw [hw5] at hL5 hO5 ⊢
    have HL5 := hide hL5
    have HO5 := hide hO5
    clear hL5 hO5 hw5
    have hNB : ∀ k, some k = v8.ownBlock → k < w.heap.size := fun k e => (World.ownsRow.lt HL.out.pl k e.symm).2
    have hNA : ∀ k, some k = v7.ownBlock → k < w.heap.size := fun k e => (HL.out.row.lt k e.symm).2
    have hbl : b ≠ l := by have := HL.out.lt; omega
    have hb8 : ¬ some b = v8.ownBlock := fun e => by have := hNB b e; omega
    have hb7 : ¬ some b = v7.ownBlock := fun e => by have := hNA b e; omega
    have hblt := World.block_lt_of_cell? _ _ hb3
    have hb5 := (HO5.out.cell (p := ⟨b, 0, none⟩) hblt (fun e => e.elim hbl hb8)).trans hb3
    obtain ⟨v10, w6, hap2, ow6, gr6, bl6⟩ := append_string (P := Tryz.prog) w5 base 60 9 60 5 i0 Tryz.underlying60 Tryz.underlying9 hi hz0 hz1 hz2 v7 G.stream.length (cells G.stream) HL5.out.row.own N (by have := HI2.out trivial; omega) (Nat.le_trans HB3.out HO5.out.size)
    obtain ⟨ao10, n10, c10, rfl⟩ := own_slice ow6
    have ow7 : w6.ownsRow base 5 1 (.slice ao10 n10 c10) (G.stream ++ E).length (cells (G.stream ++ E)) := by
      have e1 : (G.stream ++ E).length = G.stream.length + N.size := by rw [List.length_append, HNS.out]
      have e2 : cells (G.stream ++ E) = cells G.stream ++ Lib.strCells N := by rw [cells_append, ← HND.out]; rfl
      rw [e1, e2]
      exact ow6
    have on6 : Only (fun k => some k = v7.ownBlock) w5 w6 := Only.grown gr6 (fun k hk => hk.symm)
    have hl7 : ¬ some l = v7.ownBlock := fun e => HL5.out.n1 e.symm
    have e7 := (on6.cell (p := ⟨l, 7, none⟩) HL5.out.lt hl7).trans HL5.out.c7
    have f7 := (on6.frozen (p := ⟨l, 7, none⟩) HL5.out.lt hl7).trans (HL5.out.fz 7)
    obtain ⟨hL7, hO7⟩ := HL5.out.stream_ E on6 ow7 (fun k e => by
      rcases bl6 with e2 | e2
      · exact .inl (e2.symm.trans e)
      · right
        rw [e2] at e
        injection e with e
        exact Nat.le_of_eq e)
    have hb6 := (hO7.cell (p := ⟨b, 0, none⟩) (Nat.lt_of_lt_of_le hblt HO5.out.size) (fun e => e.elim hbl hb7)).trans hb5
    have p7 := HL5.out.c7
    have x4 := (on6.cell (p := ⟨l, 4, none⟩) HL5.out.lt hl7).trans HL5.out.c4
    have xf4 := (on6.frozen (p := ⟨l, 4, none⟩) HL5.out.lt hl7).trans (HL5.out.fz 4)
    have xb := (on6.cell (p := ⟨b, 0, none⟩) (Nat.lt_of_lt_of_le hblt HO5.out.size) hb7).trans hb5
    simp only at x4
    obtain ⟨T, hT⟩ : ∃ T, G.tail + E.length = T := ⟨_, rfl⟩
    have hT1 : (G.tail : Int) + (N.size : Int) = (T : Int) := by have := HNS.out; omega
    have hT2 : (T : Int) < 1099600000000 := by have := HI2.out trivial; omega
    have HT := hide hT
    have HAP2 := hide hap2
    have HL7 := hide hL7
    have HO7 := hide hO7
    have HB6 := hide hb6
    have BL6 := hide bl6
    have HBL := hide hbl
    clear hap2 hL7 hO7 ow6 ow7 gr6 bl6 on6 hNB hNA hb8 hb7 hb5 hb3 hb6 hl7 hblt hbl d4 hT
    try rw [Exit.then]
    go_wp2_with (at_builtin; go_must (refine Lib.wpList_append_run _ rfl (.tmp 45) (.tmp 46) _ _ rfl _ _ rfl rfl _ _ HAP2.out ?_))
    go_ret2
    obtain ⟨hL8, hO8⟩ := HL7.out.tail_ T
    have hg : { ({ ({ G with places := G.places ++ [(G.tail : Int)] } : Lg) with stream := G.stream ++ E } : Lg) with tail := T } = G.app E := by unfold Lg.app; rw [HT.out]
    rw [hg] at hL8
    refine ⟨rfl, _, _, hL8, ?_, fun k e => ?_, fun k e => ?_⟩
    · exact (((HO3.out.mono (T := fun k => k = l ∨ some k = v7.ownBlock ∨ some k = v8.ownBlock) (fun _ _ h => h.elim)).trans HO5.out (fun _ _ h => h.elim .inl (fun h => .inr (.inr h)))).trans HO7.out (fun _ _ h => h.elim .inl (fun h => .inr (.inl h)))).trans hO8 (fun _ _ h => .inl h)
    · rcases BL6.out with e2 | e2
      · exact .inl (e2.symm.trans e)
      · right
        rw [e2] at e
        injection e with e
        have := HO3.out.size
        have := HO5.out.size
        omega
    · rcases BL4.out with e2 | e2
      · exact .inl (e2.symm.trans e)
      · right
        rw [e2] at e
        injection e with e
        have := HO3.out.size
        rw [← e]
        simp
        omega
end Go.Proofs.YtcbdpdkmkncffaaGreatDoor

namespace Go.Proofs.YtcbdpdkmkncffaaGreatDoor
open Go.RowKit

theorem LogOw.res_ {W : World} {l d : Nat} {G : Lg} {base : Nat} {v7 v8 : Value} (h : LogOw W l d G base v7 v8) (t : Nat) :
    LogOw (W.setCell ⟨l, 6, none⟩ (.int .i64 (t : Int))) l d { G with reserved := t } base v7 v8 ∧ Only (fun k => k = l) W (W.setCell ⟨l, 6, none⟩ (.int .i64 (t : Int))) := by
  have k : ∀ (j : Nat) (v : Value), j ≠ 6 → W.cell? ⟨l, j, none⟩ = some v → (W.setCell ⟨l, 6, none⟩ (.int .i64 (t : Int))).cell? ⟨l, j, none⟩ = some v := fun j v hj hc =>
    (World.cell?_setCell_other _ _ _ _ (by intro e; injection e with _ e; exact hj e.symm)).trans hc
  have o2' : Only (fun i => i = l) W (W.setCell ⟨l, 6, none⟩ (.int .i64 (t : Int))) := Only.setCell (S := fun i => i = l) _ _ _ rfl
  refine ⟨⟨k _ _ (by decide) h.c0, k _ _ (by decide) h.c1, k _ _ (by decide) h.c2, k _ _ (by decide) h.c3, k _ _ (by decide) h.c4, k _ _ (by decide) h.c5, World.cell?_setCell_same _ _ _ h.c6, k _ _ (by decide) h.c7, k _ _ (by decide) h.c8, fun j => by simpa using h.fz j, by simpa using h.lt, h.row.kept o2' (fun k e e2 => ?_), own_only h.pl o2' (fun k e e2 => ?_), h.n1, h.n2, h.n3⟩, o2'⟩
  · subst e2; exact h.n1 e
  · subst e2; exact h.n2 e
theorem append_nil (w : World) (v : Value) (r : Rc) (L : Loc) (hv : v = .agg (r.cells L)) : Calls Tryz.prog 10 #[.pointer none, v] w fun e w' => e = .returned (.tuple #[.int .i64 0, .int .i64 2]) ∧ Only (fun _ => False) w w' := by
  subst hv
  go_enter Tryz.func10, Tryz.ntmps10
  go_wp2
  go_ret2
  exact ⟨rfl, onlyA w _⟩
theorem release_bad (w : World) (l d : Nat) (G : Lg) (base : Nat) (v7 v8 : Value) (h : LogOw w l d G base v7 v8) (n : Int) (hn : n < 0 ∨ (G.reserved : Int) < n) :
    Calls Tryz.prog 12 #[.pointer (some ⟨l, 0, none⟩), .int .i64 n] w fun e w' => e = .returned (.int .i64 1) ∧ Only (fun _ => False) w w' := by
  have c6 := h.c6
  by_cases h1 : n < 0
  · clear hn h
    go_enter Tryz.func12, Tryz.ntmps12
    go_wp2
    go_ret
    exact ⟨rfl, Only.refl _ _⟩
  · have h2 : (G.reserved : Int) < n := by omega
    clear hn h
    go_enter Tryz.func12, Tryz.ntmps12
    go_wp2
    go_ret
    exact ⟨rfl, Only.refl _ _⟩
theorem release_ok (w : World) (l d : Nat) (G : Lg) (base : Nat) (v7 v8 : Value) (h : LogOw w l d G base v7 v8) (n : Nat) (hn : n ≤ G.reserved) (hr : G.reserved ≤ 1099511627776) :
    Calls Tryz.prog 12 #[.pointer (some ⟨l, 0, none⟩), .int .i64 (n : Int)] w fun e w' => e = .returned (.int .i64 0) ∧ LogOw w' l d { G with reserved := G.reserved - n } base v7 v8 ∧ Only (fun k => k = l) w w' := by
  have c6 := h.c6
  have f6 := h.fz 6
  obtain ⟨t, ht⟩ : ∃ t, G.reserved - n = t := ⟨_, rfl⟩
  have e1 : (G.reserved : Int) - (n : Int) = (t : Int) := by omega
  have HX := hide (h.res_ t)
  have h1 : ¬ (n : Int) < 0 := by omega
  have h2 : ¬ (G.reserved : Int) < (n : Int) := by omega
  have h3 : (G.reserved : Int) < 1099511627777 := by omega
  rw [ht]
  clear hn hr h ht
  go_enter Tryz.func12, Tryz.ntmps12
  go_wp2
  go_ret
  exact ⟨rfl, HX.out.1, HX.out.2⟩
theorem LogOw.room_ {W : World} {l d : Nat} {G : Lg} {base : Nat} {v7 v8 : Value} (h : LogOw W l d G base v7 v8) (ok : G.Ok) : Calls Tryz.prog 8 #[.pointer (some ⟨l, 0, none⟩)] W fun e w' => e = .returned (.int .i64 (G.room : Int)) ∧ Only (fun _ => False) W w' := by
  obtain ⟨B, ao, cp, _, hA, _⟩ := h.at_
  exact room_any W l d G B ao cp v8 hA ok
theorem reserve_neg (w : World) (l : Nat) (n : Int) (hn : n < 0) :
    Calls Tryz.prog 11 #[.pointer (some ⟨l, 0, none⟩), .int .i64 n] w fun e w' => e = .returned (.int .i64 1) ∧ Only (fun _ => False) w w' := by
  go_enter Tryz.func11, Tryz.ntmps11
  go_wp2
  go_ret
  exact ⟨rfl, Only.refl _ _⟩
theorem reserve_full (w : World) (l d : Nat) (G : Lg) (base : Nat) (v7 v8 : Value) (h : LogOw w l d G base v7 v8) (ok : G.Ok) (n : Int) (hn : (G.room : Int) < n) :
    Calls Tryz.prog 11 #[.pointer (some ⟨l, 0, none⟩), .int .i64 n] w fun e w' => e = .returned (.int .i64 50) ∧ Only (fun _ => False) w w' := by
  have HR := hide (h.room_ ok)
  obtain ⟨R, hR⟩ : ∃ R, G.room = R := ⟨_, rfl⟩
  rw [hR] at HR hn
  have h1 : ¬ n < 0 := by omega
  clear h ok hR
  go_enter Tryz.func11, Tryz.ntmps11
  go_wp2_with (first
    | (go_at_call 8; refine HR.out.mono ?_; rintro e w1 ⟨rfl, ho1⟩; have HO1 := hide ho1; clear ho1))
  go_ret
  exact ⟨rfl, HO1.out⟩
theorem reserve_ok (w : World) (l d : Nat) (G : Lg) (base : Nat) (v7 v8 : Value) (h : LogOw w l d G base v7 v8) (ok : G.Ok) (n : Nat) (hn : n ≤ G.room) :
    Calls Tryz.prog 11 #[.pointer (some ⟨l, 0, none⟩), .int .i64 (n : Int)] w fun e w' => e = .returned (.int .i64 0) ∧ LogOw w' l d { G with reserved := G.reserved + n } base v7 v8 ∧ Only (fun k => k = l) w w' := by
  have HR := hide (h.room_ ok)
  have hrs := ok.rs
  have hrl : G.room ≤ 4000000 := by unfold Lg.room; have := ok.nb; omega
  obtain ⟨R, hR⟩ : ∃ R, G.room = R := ⟨_, rfl⟩
  rw [hR] at HR hn hrl
  obtain ⟨t, ht⟩ : ∃ t, G.reserved + n = t := ⟨_, rfl⟩
  have e1 : (G.reserved : Int) + (n : Int) = (t : Int) := by omega
  have e2 : IntKind.i64.wrap ((G.reserved : Int) + (n : Int)) = (t : Int) := by rw [IntKind.wrap_i64]; omega
  have h1 : ¬ (n : Int) < 0 := by omega
  have h2 : ¬ (R : Int) < (n : Int) := by omega
  rw [ht]
  have HL := hide h
  clear h ok hR hn hrs hrl ht e1
  go_enter Tryz.func11, Tryz.ntmps11
  go_wp2_with (first
    | (go_at_call 8; refine HR.out.mono ?_; rintro e w1 ⟨rfl, ho1⟩; have HO1 := hide ho1; have HL1 := hide (HL.out.more ho1); have c6 := HL1.out.c6; have f6 := HL1.out.fz 6; clear ho1))
  go_ret
  have hx := HL1.out.res_ t
  exact ⟨rfl, hx.1, (HO1.out.mono (T := fun k => k = l) (fun _ _ h => h.elim)).trans hx.2 (fun _ _ h => h)⟩
end Go.Proofs.YtcbdpdkmkncffaaGreatDoor

namespace Go.Proofs.YtcbdpdkmkncffaaGreatDoor
open Go.RowKit

def encR (l : List Rc) : List UInt8 := (l.map Rc.enc).flatten
theorem encR_snoc (l : List Rc) (r : Rc) : encR (l ++ [r]) = encR l ++ r.enc := by simp [encR]
theorem encR_cons (l : List Rc) (r : Rc) : encR (r :: l) = r.enc ++ encR l := by simp [encR]
theorem encR_app (l k : List Rc) : encR (l ++ k) = encR l ++ encR k := by simp [encR]
/-- The place of the i-th record. -/
def tk (start : Nat) (rs : List Rc) (i : Nat) : Nat := start + (encR (rs.take i)).length
theorem tk_next (start : Nat) (rs : List Rc) (i : Nat) (h : i < rs.length) : tk start rs (i + 1) = tk start rs i + rs[i].enc.length := by
  unfold tk
  rw [List.take_succ_eq_append_getElem h, encR_snoc, List.length_append]
  omega
theorem tk_le (start : Nat) (rs : List Rc) (i j : Nat) (h : i ≤ j) : tk start rs i ≤ tk start rs j := by
  unfold tk
  have e : rs.take j = rs.take i ++ (rs.drop i).take (j - i) := by
    have : rs.take j = (rs.take j).take i ++ (rs.take j).drop i := (List.take_append_drop i _).symm
    rw [this, List.take_take, List.drop_take, show min i j = i by omega]
  rw [e, encR_app, List.length_append]
  omega
def plc (start : Nat) (rs : List Rc) (i : Nat) : List Int := (List.range i).map fun j => (tk start rs j : Int)
theorem plc_next (start : Nat) (rs : List Rc) (i : Nat) : plc start rs (i + 1) = plc start rs i ++ [(tk start rs i : Int)] := by
  unfold plc
  rw [List.range_succ, List.map_append]
  rfl
theorem plc_len (start : Nat) (rs : List Rc) (i : Nat) : (plc start rs i).length = i := by simp [plc]
/-- Records that stand at their places from start on. -/
structure Chn (start : Nat) (rs : List Rc) : Prop where
  each : ∀ i (h : i < rs.length), rs[i].valid ∧ (∀ im ∈ rs[i].images, im.body.lsn < 9223372036854775808) ∧ rs[i].lsn = (tk start rs i : Int)
def Gi (frm n start : Nat) (rs : List Rc) (i : Nat) : Lg := ⟨frm, n, start, tk start rs i, 0, 0, [], plc start rs i⟩
theorem told_drop {told pre : List UInt8} {rs : List Rc} (h : told = pre ++ encR rs) (i : Nat) : told.drop (pre.length + (encR (rs.take i)).length) = encR (rs.drop i) := by
  have e : encR rs = encR (rs.take i) ++ encR (rs.drop i) := by rw [← encR_app, List.take_append_drop]
  rw [h, e, ← List.append_assoc, ← List.length_append, List.drop_left]
structure TkS (w wr : World) (l d : Nat) (G : Lg) (v5 v8 : Value) (done : List Rc) : Prop where
  log : LogOw wr l d G w.heap.size (.slice none 0 0) v8
  recs : ∃ acc : List Lr, Ow wr w.heap.size v5 acc ∧ acc.map (fun z => z.1) = done
  sep : ∀ k, v5.ownBlock = some k → v8.ownBlock ≠ some k
  only : Only (fun k => k = l) w wr
theorem TkS.more {w wr wc : World} {l d : Nat} {G : Lg} {v5 v8 : Value} {done : List Rc} (h : TkS w wr l d G v5 v8 done) (ho : Only (fun _ => False) wr wc) : TkS w wc l d G v5 v8 done := by
  obtain ⟨acc, h1, h2⟩ := h.recs
  exact ⟨h.log.more ho, ⟨acc, h1.more ho, h2⟩, h.sep, h.only.trans ho (fun _ _ h => h.elim)⟩
theorem append_rec2 (w : World) (ty : TypeId) (base : Nat) (v : Value) (l : List Lr) (h : Ow w base v l) (z : Lr) (hroom : (l.length + 1) * 216 ≤ 140737488355328) (hbase : base ≤ w.heap.size) :
    ∃ v' w', (Builtin.append_ #[49, 49] ty #[v, .slice (some ⟨w.heap.size, 0, none⟩) 1 1]).run Tryz.prog (w.alloc (.cells (z.1.cells z.2) 37)) = .ok v' w' ∧ Ow w' base v' (l ++ [z]) ∧ Only (fun k => some k = v.ownBlock) w w' ∧ (v'.ownBlock = v.ownBlock ∨ v'.ownBlock = some (w.heap.size + 1)) := by
  obtain ⟨i0, hi, hz0, hz1, hz2⟩ := info_parts Tryz.infoRec
  have hA := onlyA w (.cells (z.1.cells z.2) 37)
  have h' := own_kept h hA (fun _ _ h => h)
  obtain ⟨v', w', hr, h2, h3, _, h5⟩ := run_append_own_at (P := Tryz.prog) _ base 49 ty 37 i0 (.agg (Rc.none.cells Loc.none)) 16 216 Tryz.underlying49 hi hz0 hz1 hz2 rfl (by decide) v l.length _ h' ⟨w.heap.size, 0, none⟩ 1 1 (rcl z) (rcl_len z)
    (fun j u hu => by
      have := range_new w z.1 z.2 j u hu
      rwa [add_at]) (by intro u hu; simp [rcl, Rc.cl] at hu; rcases hu with rfl | rfl | rfl | rfl | rfl | rfl | rfl | rfl | rfl | rfl | rfl | rfl | rfl | rfl | rfl | rfl <;> rfl) (by unfold maxLen; omega) (by omega) (by simp; omega)
  refine ⟨v', w', hr, ?_, (Only.alloc (fun k => some k = v.ownBlock) w _).trans (Only.grown (S := fun k => some k = v.ownBlock) h3 (fun k hk => hk.symm)) (fun _ _ h => h), ?_⟩
  · have e : l.length + 1 = (l ++ [z]).length := by simp
    have e2 : (l ++ [z]).flatMap rcl = l.flatMap rcl ++ rcl z := by simp
    unfold Ow
    rw [e2, ← e]
    exact h2
  · simpa using h5
/-- A record appended to the list. -/
theorem TkS.rec_ {w wr w4 : World} {l d : Nat} {G : Lg} {v5 v8 v' : Value} {done : List Rc} {acc : List Lr} {z : Lr} (h : TkS w wr l d G v5 v8 done) (ha : acc.map (fun z => z.1) = done) (how : Ow w4 w.heap.size v' (acc ++ [z])) (hv5 : Ow wr w.heap.size v5 acc)
    (ho : Only (fun k => some k = v5.ownBlock) wr w4) (hb : v'.ownBlock = v5.ownBlock ∨ ∃ q, wr.heap.size ≤ q ∧ v'.ownBlock = some q) (hl : l < w.heap.size) : TkS w w4 l d G v' v8 (done ++ [z.1]) := by
  have h5 : ∀ k, v5.ownBlock = some k → w.heap.size ≤ k := fun k e => (World.ownsRow.lt hv5 k e).1
  refine ⟨h.log.kept ho (fun e => by have := h5 l e.symm; omega) (fun k e => by cases e) (fun k e e2 => h.sep k e2.symm e), ⟨acc ++ [z], how, by rw [List.map_append, ha]; rfl⟩, fun k e e2 => ?_, h.only.trans ho (fun i hi e => ?_)⟩
  · rcases hb with hb | ⟨q, hq, hb⟩
    · exact h.sep k (hb.symm.trans e) e2
    · rw [hb] at e
      injection e with e
      have := (World.ownsRow.lt h.log.pl k e2).2
      omega
  · have := h5 i e.symm
    omega
theorem TkS.plc_ {w wr w4 : World} {l d : Nat} {G : Lg} {v5 v8 v9 : Value} {done : List Rc} (h : TkS w wr l d G v5 v8 done) (z : Int) (ho : Only (fun k => some k = v8.ownBlock) wr w4) (hp : w4.ownsRow w.heap.size 3 1 v9 (G.places ++ [z]).length ((G.places ++ [z]).map (Value.int .i64))) (hb : ∀ k, v9.ownBlock = some k → v8.ownBlock = some k ∨ wr.heap.size ≤ k) (hl : l < w.heap.size) :
    TkS w (w4.setCell ⟨l, 8, none⟩ v9) l d { G with places := G.places ++ [z] } v5 v9 done := by
  obtain ⟨hL, hO⟩ := h.log.places_ z ho hp hb
  obtain ⟨acc, h1, h2⟩ := h.recs
  have h5 : ∀ k, v5.ownBlock = some k → w.heap.size ≤ k ∧ k < wr.heap.size := fun k e => World.ownsRow.lt h1 k e
  refine ⟨hL, ⟨acc, own_kept h1 hO (fun k e q => ?_), h2⟩, fun k e e2 => ?_, h.only.trans hO (fun i hi q => ?_)⟩
  · rcases q with q | q
    · have := h5 k e; omega
    · exact h.sep k e q.symm
  · rcases hb k e2 with q | q
    · exact h.sep k e q
    · have := h5 k e; omega
  · rcases q with q | q
    · exact q
    · have := (World.ownsRow.lt h.log.pl i q.symm).1
      omega
theorem TkS.tail_ {w wr : World} {l d : Nat} {G : Lg} {v5 v8 : Value} {done : List Rc} (h : TkS w wr l d G v5 v8 done) (t : Nat) (hl : l < w.heap.size) : TkS w (wr.setCell ⟨l, 4, none⟩ (.int .i64 (t : Int))) l d { G with tail := t } v5 v8 done := by
  obtain ⟨hL, hO⟩ := h.log.tail_ t
  obtain ⟨acc, h1, h2⟩ := h.recs
  exact ⟨hL, ⟨acc, own_kept h1 hO (fun k e q => by have := (World.ownsRow.lt h1 k e).1; omega), h2⟩, h.sep, h.only.trans hO (fun _ _ e => e)⟩
theorem bytes_bys (w : World) (s : ByteArray) (hs : s.size ≤ 2000000) : ∃ (W1 : World) (cap : Nat), (convert 9 60 (.string s)).run Tryz.prog w = .ok (.slice (some ⟨w.heap.size, 0, none⟩) s.size cap) W1 ∧ Bys W1 w.heap.size (some ⟨w.heap.size, 0, none⟩) (bl s) ∧ Only (fun _ => False) w W1 ∧ s.size ≤ cap ∧ cap ≤ maxLen := by
  refine ⟨_, _, run_bytes_of_string (P := Tryz.prog) w 9 60 5 s Tryz.underlying9 Tryz.underlying60 Tryz.underlying5, ⟨fun _ => ⟨0, rfl, ?_⟩, fun _ => by simp⟩, (Only.drew _ w).trans (Only.alloc _ _ _) (fun _ _ h => h) (T := fun _ => False), grownCap_ge w s.size 0 5, grownCap_le_maxLen w s.size 0 5 (by unfold maxLen; omega)⟩
  intro j hj
  rw [bl_len] at hj
  generalize grownCap w s.size 0 5 = cap
  have hb : (w.drew.alloc (.cells (bytesRow s cap) 5 ((bytesRow s cap).size, (bytesRow s cap).size + 1))).heap[w.heap.size]? = some (.cells (bytesRow s cap) 5 ((bytesRow s cap).size, (bytesRow s cap).size + 1)) := heap_alloc_new w.drew _
  rw [Nat.zero_add, cell_of_row _ w.heap.size j (bytesRow s cap) 5 _ hb]
  unfold bytesRow
  rw [Array.getElem?_append_left (by simpa using hj)]
  have hj' : j < s.data.size := hj
  simp [Array.getElem?_map, Array.getElem?_eq_getElem hj']
/-- A log whose stream and whose flushed place are stored. -/
theorem LogOw.fin {W : World} {l d frm n start T base B cp : Nat} {places : List Int} {v8 : Value} {s : List UInt8} (h : LogOw W l d ⟨frm, n, start, T, 0, 0, [], places⟩ base (.slice none 0 0) v8) (hb : Bys W B (some ⟨B, 0, none⟩) s) (hB : B ≠ l) (hc : s.length ≤ cp) (hm : cp ≤ maxLen) :
    LogAt ((W.setCell ⟨l, 7, none⟩ (.slice (some ⟨B, 0, none⟩) s.length cp)).setCell ⟨l, 5, none⟩ (.int .i64 (T : Int))) l d ⟨frm, n, start, T, T, 0, s, places⟩ B (some ⟨B, 0, none⟩) cp v8 ∧ Only (fun k => k = l) W ((W.setCell ⟨l, 7, none⟩ (.slice (some ⟨B, 0, none⟩) s.length cp)).setCell ⟨l, 5, none⟩ (.int .i64 (T : Int))) := by
  have o1 : Only (fun k => k = l) W (W.setCell ⟨l, 7, none⟩ (.slice (some ⟨B, 0, none⟩) s.length cp)) := Only.setCell (S := fun i => i = l) _ _ _ rfl
  have o3 : Only (fun k => k = l) (W.setCell ⟨l, 7, none⟩ (.slice (some ⟨B, 0, none⟩) s.length cp)) ((W.setCell ⟨l, 7, none⟩ (.slice (some ⟨B, 0, none⟩) s.length cp)).setCell ⟨l, 5, none⟩ (.int .i64 (T : Int))) := Only.setCell (S := fun i => i = l) _ _ _ rfl
  have k1 : ∀ (W : World) (i j : Nat) (v x : Value), i ≠ j → W.cell? ⟨l, j, none⟩ = some x → (W.setCell ⟨l, i, none⟩ v).cell? ⟨l, j, none⟩ = some x := fun W i j v x hij hx => (World.cell?_setCell_other _ _ _ _ (by intro e; injection e with _ e; exact hij e)).trans hx
  have k : ∀ (j : Nat) (x : Value), 5 ≠ j → 7 ≠ j → W.cell? ⟨l, j, none⟩ = some x → ((W.setCell ⟨l, 7, none⟩ (.slice (some ⟨B, 0, none⟩) s.length cp)).setCell ⟨l, 5, none⟩ (.int .i64 (T : Int))).cell? ⟨l, j, none⟩ = some x := fun j x h5 h7 hx => k1 _ 5 j _ _ h5 (k1 _ 7 j _ _ h7 hx)
  have ho := o1.trans o3 (fun _ _ e => e)
  refine ⟨⟨k 0 _ (by decide) (by decide) h.c0, k 1 _ (by decide) (by decide) h.c1, k 2 _ (by decide) (by decide) h.c2, k 3 _ (by decide) (by decide) h.c3, k 4 _ (by decide) (by decide) h.c4, World.cell?_setCell_same _ _ _ (k1 _ 7 5 _ _ (by decide) h.c5), k 6 _ (by decide) (by decide) h.c6, k1 _ 5 7 _ _ (by decide) (World.cell?_setCell_same _ _ _ h.c7), k 8 _ (by decide) (by decide) h.c8, fun j => by simpa using h.fz j, by simpa using h.lt, hb.kept ho (fun _ => hB), (fun e => by cases e), (fun a e => by injection e with e; rw [← e]), hc, hm⟩, ho⟩
theorem extract_all (s : ByteArray) (n : Nat) (h : n = s.size) : s.extract 0 n = s := by
  subst h
  rw [ba_eq (s.extract 0 s.size) _ (Lib.extract_to_end s 0)]
  exact str_bl s
end Go.Proofs.YtcbdpdkmkncffaaGreatDoor

namespace Go.Proofs.YtcbdpdkmkncffaaGreatDoor
open Go.RowKit

set_option maxRecDepth 100000 in
set_option maxHeartbeats 3200000 in
theorem wtake_all (w : World) (l d frm n start : Nat) (told : ByteArray) (pre : List UInt8) (rs : List Rc) (h : LogOw w l d ⟨frm, n, start, 0, 0, 0, [], []⟩ w.heap.size (.slice none 0 0) (.slice none 0 0)) (hst : 1 ≤ start) (hbd : tk start rs rs.length ≤ 1000000) (hpre : pre.length = (start - 1) % 54) (htold : bl told = pre ++ encR rs) (hC : Chn start rs) (hrs : rs.length ≤ 1000) :
    Calls Tryz.prog 50 #[.pointer (some ⟨l, 0, none⟩), .string told] w fun e w' => ∃ v5 acc B cp v8, e = .returned v5 ∧ Ow w' w.heap.size v5 acc ∧ acc.map (fun z => z.1) = rs ∧ LogAt w' l d ⟨frm, n, start, tk start rs rs.length, tk start rs rs.length, 0, bl told, plc start rs rs.length⟩ B (some ⟨B, 0, none⟩) cp v8 ∧ Only (fun k => k = l) w w' ∧ w.heap.size ≤ B := by
  have hl := h.lt
  have HL := hide hl
  have HAH := hide (fun W => ahead_any start W hst (by have := tk_le start rs 0 rs.length (by omega); unfold tk at this hbd; simp at this; omega))
  rw [← hpre] at HAH
  have hsz : told.size = pre.length + (encR rs).length := by rw [← bl_len, htold, List.length_append]
  have hs0 : start ≤ 1000000 := by unfold tk at hbd; omega
  have hel : (encR rs).length ≤ 1000000 := by unfold tk at hbd; rw [List.take_length] at hbd; omega
  have hpl : pre.length < 54 := by rw [hpre]; omega
  have hts : told.size ≤ 1000100 := by omega
  have HT := hide htold
  have HBD := hide hbd
  have HCH := hide hC
  have HSZ := hide hsz
  have HG0 := hide (h.tail_ start)
  have c3 := h.c3
  have c4 := h.c4
  have f4 := h.fz 4
  simp only at c3 c4
  have HTK0 : Hid (tk start rs 0 = start) := by unfold Hid tk; simp [encR]
  obtain ⟨e0, he0⟩ : ∃ e, pre.length = e := ⟨_, rfl⟩
  simp only [he0] at HAH
  rw [he0] at hpl
  have HE0 := hide he0
  clear h hbd hpre htold hC hsz he0 hl
  go_enter Tryz.func50, Tryz.ntmps50
  go_wp2_with fail
  refine (HAH.out _).mono ?_
  rintro e w1 ⟨rfl, hw⟩
  obtain rfl := hw.symm
  clear hw
  go_upto_region 4 with fail
  obtain ⟨W1, hW1⟩ : ∃ W, w.setCell ⟨l, 4, none⟩ (.int .i64 (start : Int)) = W := ⟨_, rfl⟩
  have HS0 : Hid (TkS w W1 l d (Gi frm n start rs 0) (.slice none 0 0) (.slice none 0 0) (rs.take 0)) := by
    have h1 := HG0.out
    rw [hW1] at h1
    refine ⟨?_, ⟨[], Ow.nil _ _, by simp⟩, (fun k e => by cases e), h1.2⟩
    have h2 := h1.1
    unfold Gi
    rw [HTK0.out]
    exact h2
  rw [hW1]
  clear hW1 c3 c4 f4 HG0
  go_loopw [5, 6] (fun u t wr => ∃ (i : Nat) (v8 : Value), i ≤ rs.length ∧ t = .int .i64 ((e0 + (encR (rs.take i)).length : Nat) : Int) ∧ Hid (TkS w wr l d (Gi frm n start rs i) u v8 (rs.take i))) (fun _ t _ => 3000000 - (intOf t).toNat)
  case atStart => exact ⟨0, _, by omega, by simp [encR], HS0⟩
  case round =>
    obtain ⟨i, v8, hi, rfl, HS⟩ := hrel
    have hend : e0 + (encR (rs.take i)).length ≤ told.size := by
      have h1 := tk_le start rs i rs.length hi
      have h2 := HSZ.out
      have h3 := HE0.out
      unfold tk at h1
      rw [List.take_length] at h1
      omega
    have HDR : Hid ((bl told).drop (e0 + (encR (rs.take i)).length) = encR (rs.drop i)) := by unfold Hid; rw [← HE0.out]; exact told_drop HT.out i
    obtain ⟨E, hE⟩ : ∃ E, e0 + (encR (rs.take i)).length = E := ⟨_, rfl⟩
    have HE := hide hE
    rw [hE] at hend HDR ⊢
    clear hE
    obtain ⟨X, hX⟩ : ∃ X, told.extract E told.size = X := ⟨_, rfl⟩
    have HX : Hid (bl X = encR (rs.drop i)) := by
      unfold Hid
      rw [← hX]
      exact (Lib.extract_to_end told E).trans HDR.out
    have hXs : X.size ≤ maxLen := by
      rw [← hX]
      have : (told.extract E told.size).size ≤ told.size := by simp
      unfold maxLen
      omega
    have HDEC := hide (fun W => rdecode_any W X hXs)
    clear hXs
    by_cases hlt : i < rs.length
    · obtain ⟨hv, him, hlsn⟩ := HCH.out.each i hlt
      have HBK : Hid (∀ (q : Rc) (n' c : Int), DecIs (bl X) q n' c → q = rs[i] ∧ n' = rs[i].enc.length ∧ c = 0) := by
        intro q n' c hd
        rw [HX.out, List.drop_eq_getElem_cons hlt, encR_cons] at hd
        exact dec_back hv him hd
      have HEN : Hid (E + rs[i].enc.length = e0 + (encR (rs.take (i + 1))).length) := by
        unfold Hid
        rw [List.take_succ_eq_append_getElem hlt, encR_snoc, List.length_append, ← HE.out]
        omega
      have HTN := hide (tk_next start rs i hlt)
      have HTB := hide (tk_le start rs (i + 1) rs.length (by omega))
      have HTE : Hid (rs.take (i + 1) = rs.take i ++ [rs[i]]) := List.take_succ_eq_append_getElem hlt
      have hpos : 0 < rs[i].enc.length := by rw [renc_len]; omega
      obtain ⟨r, hr⟩ : ∃ r, rs[i] = r := ⟨_, rfl⟩
      rw [hr] at HEN HTN HTE hpos hlsn
      simp only [hr] at HBK
      obtain ⟨z, hz⟩ : ∃ z, r.enc.length = z := ⟨_, rfl⟩
      rw [hz] at HEN HTN hpos
      simp only [hz] at HBK
      obtain ⟨T, hT⟩ : ∃ T, tk start rs i = T := ⟨_, rfl⟩
      rw [hT] at hlsn HTN
      have HTT := hide hT
      have HLSN := hide hlsn
      have hTb : T + z ≤ 1000000 := by have := HTN.out; have := HTB.out; have := HBD.out; omega
      clear hv him hlsn hr hz hT
      go_wp2_with fail
      refine (HDEC.out _).mono ?_
      rintro e w2 hq
      obtain ⟨r2, n2, c2, L2, hd, hat, rfl⟩ := hq.ex
      obtain ⟨e1, e2, e3⟩ := HBK.out _ _ _ hd
      rw [e1, e2, e3]
      clear e1 e2 e3
      have HS2 := hide (HS.out.more hq.only)
      have HNEW := hide (there_new w2 Rc.none Loc.none)
      have HOA := hide (onlyA w2 (.cells (Rc.none.cells Loc.none) 37))
      clear hq hd hat
      obtain ⟨b7, hb7⟩ : ∃ b, w2.heap.size = b := ⟨_, rfl⟩
      rw [hb7] at HNEW
      go_upto_region 5 with (refine wpList_lay_rec rfl (.tmp 7) (.tmp 27) rfl b7 rfl r L2 rfl HNEW.out ?_; intro W3 HW3; go_frame)
      have HS3 : Hid (TkS w W3 l d (Gi frm n start rs i) u5 v8 (rs.take i)) := by
        have h3 : Only (fun _ => False) w2 W3 := HOA.out.trans HW3.out.only (fun i hi e => by omega)
        exact HS2.out.more h3
      have HRG := hide HW3.out.range
      have r0 : W3.cell? ⟨b7, 0, none⟩ = some (.int .i64 (T : Int)) := by
        have := HRG.out 0 (.int .i64 r.lsn) rfl
        rw [HLSN.out] at this
        exact this
      have t4 : W3.cell? ⟨l, 4, none⟩ = some (.int .i64 (T : Int)) := by
        have := HS3.out.log.c4
        unfold Gi at this
        simp only [HTT.out] at this
        exact this
      clear HW3 HNEW HOA HS2 HDEC
      go_wp2_with fail
      go_region
      go_upto_region 6 with fail
      obtain ⟨W4, hW4⟩ : ∃ W, W3.drew = W := ⟨_, rfl⟩
      have HS4 : Hid (TkS w W4 l d (Gi frm n start rs i) u5 v8 (rs.take i)) := by unfold Hid; rw [← hW4]; exact HS3.out.more (Only.drew _ _)
      have HRG4 : Hid (W4.rangeAt b7 0 (r.cl L2)) := by unfold Hid; rw [← hW4]; exact HRG.out
      rw [hW4]
      clear hW4 r0 t4 HRG HS3
      obtain ⟨acc, how, hacc⟩ := HS4.out.recs
      have hal : acc.length ≤ 1000 := by
        have := congrArg List.length hacc
        rw [List.length_map, List.length_take] at this
        omega
      obtain ⟨v5, w5, hrun, how5, ho5, hb5⟩ := append_rec2 W4 49 w.heap.size u5 acc how (r, L2) (by omega) HS4.out.only.size
      have HRUN := hide hrun
      have HS5 : Hid (TkS w w5 l d (Gi frm n start rs i) v5 v8 (rs.take (i + 1))) := by
        unfold Hid
        rw [HTE.out]
        exact HS4.out.rec_ hacc how5 how ho5 (hb5.imp id (fun e => ⟨_, by omega, e⟩)) HL.out
      clear hrun how5 ho5 hb5 how hacc hal HS4
      go_upto_region 7 with (first
        | (refine wpList_load_rec rfl (.tmp 7) rfl b7 rfl r L2 HRG4.out ?_; go_frame)
        | (at_builtin; go_must (refine Lib.wpList_append_run _ rfl (.tmp 41) (.tmp 43) _ _ rfl _ _ rfl rfl _ _ HRUN.out ?_)))
      clear HRUN HRG4
      have HLO := hide HS5.out.log
      have HPLC : Hid (True → (plc start rs i).length ≤ 1000000000) := fun _ => by rw [plc_len]; omega
      have HB5 : Hid (w.heap.size ≤ w5.heap.size) := HS5.out.only.size
      have d4 : w5.cell? ⟨l, 4, none⟩ = some (.int .i64 (T : Int)) := by
        have := HLO.out.c4
        unfold Gi at this
        simp only [HTT.out] at this
        exact this
      have HD4 := hide d4
      have g8 : ∀ o, (w5.drew.alloc o).cell? ⟨l, 8, none⟩ = some v8 := fun o => (HLO.out.more (o2 (Only.drew _ w5) (onlyA _ _))).c8
      have g9 : ∀ o, (w5.alloc o).cell? ⟨l, 8, none⟩ = some v8 := fun o => (HLO.out.more (onlyA _ _)).c8
      have d8 := HLO.out.c8
      refine wp_region_noPanic ?_
      refine wp_region_held_drew (S := fun W => W.cell? ⟨l, 4, none⟩ = some (.int .i64 (T : Int))) (by kernel_rfl) (by simpa using d4) (fun hHeld => ?_)
      refine wpAnyH_take (i := 0) (oi := { dst := some 45, op := Op.move (Operand.tmp 0), type := 27, pos := "wal.go:78", after := #[], guard := none }) (v := .pointer (some ⟨l, 0, none⟩)) rfl (by kernel_rfl) (by kernel_rfl) (by kernel_rfl) (fun _ _ _ h => h) (Or.inl ⟨by rfl, fun w' hSw => by clear hSw; go_simp⟩) (by assumption) ?_
      simp only [Act.put, List.setIfInBounds_toArray, List.set_cons_zero, List.set_cons_succ]
      refine wpAnyH_take (i := 1) (oi := { dst := some 46, op := Op.move (Operand.tmp 0), type := 27, pos := "wal.go:78", after := #[], guard := none }) (v := .pointer (some ⟨l, 0, none⟩)) rfl (by kernel_rfl) (by kernel_rfl) (by kernel_rfl) (fun _ _ _ h => h) (Or.inl ⟨by rfl, fun w' hSw => by clear hSw; go_simp⟩) (by assumption) ?_
      simp only [Act.put, List.setIfInBounds_toArray, List.set_cons_zero, List.set_cons_succ]
      refine wpAnyH_take (i := 5) (oi := { dst := some 50, op := Op.move (Operand.tmp 0), type := 27, pos := "wal.go:78", after := #[], guard := none }) (v := .pointer (some ⟨l, 0, none⟩)) rfl (by kernel_rfl) (by kernel_rfl) (by kernel_rfl) (fun _ _ _ h => h) (Or.inl ⟨by rfl, fun w' hSw => by clear hSw; go_simp⟩) (by assumption) ?_
      simp only [Act.put, List.setIfInBounds_toArray, List.set_cons_zero, List.set_cons_succ]
      refine wpAnyH_take (i := 2) (oi := { dst := some 47, op := Op.nilCheck (Operand.tmp 46), type := 0, pos := "wal.go:78", after := #[{ on := 1, ground := Ground.data }], guard := none }) (v := .pointer (some ⟨l, 0, none⟩)) rfl (by kernel_rfl) (by kernel_rfl) (by kernel_rfl) (fun _ _ _ h => h) (Or.inl ⟨by rfl, fun w' hSw => by clear hSw; go_simp⟩) (by assumption) ?_
      simp only [Act.put, List.setIfInBounds_toArray, List.set_cons_zero, List.set_cons_succ]
      refine wpAnyH_take (i := 6) (oi := { dst := some 51, op := Op.nilCheck (Operand.tmp 50), type := 0, pos := "wal.go:78", after := #[{ on := 5, ground := Ground.data }], guard := none }) (v := .pointer (some ⟨l, 0, none⟩)) rfl (by kernel_rfl) (by kernel_rfl) (by kernel_rfl) (fun _ _ _ h => h) (Or.inl ⟨by rfl, fun w' hSw => by clear hSw; go_simp⟩) (by assumption) ?_
      simp only [Act.put, List.setIfInBounds_toArray, List.set_cons_zero, List.set_cons_succ]
      refine wpAnyH_take (i := 3) (oi := { dst := some 48, op := Op.fieldAddr 62 (Operand.tmp 47) 8, type := 0, pos := "wal.go:78", after := #[{ on := 2, ground := Ground.data }], guard := none }) (v := .pointer (some ⟨l, 8, none⟩)) rfl (by kernel_rfl) (by kernel_rfl) (by kernel_rfl) (fun _ _ _ h => h) (Or.inl ⟨by rfl, fun w' hSw => by clear hSw; go_simp⟩) (by assumption) ?_
      simp only [Act.put, List.setIfInBounds_toArray, List.set_cons_zero, List.set_cons_succ]
      refine wpAnyH_take (i := 7) (oi := { dst := some 52, op := Op.fieldAddr 62 (Operand.tmp 51) 4, type := 0, pos := "wal.go:78", after := #[{ on := 6, ground := Ground.data }], guard := none }) (v := .pointer (some ⟨l, 4, none⟩)) rfl (by kernel_rfl) (by kernel_rfl) (by kernel_rfl) (fun _ _ _ h => h) (Or.inl ⟨by rfl, fun w' hSw => by clear hSw; go_simp⟩) (by assumption) ?_
      simp only [Act.put, List.setIfInBounds_toArray, List.set_cons_zero, List.set_cons_succ]
      refine wpAnyH_take (i := 8) (oi := { dst := some 53, op := Op.load 3 (Operand.tmp 52), type := 3, pos := "wal.go:78", after := #[{ on := 7, ground := Ground.data }], guard := none }) (v := .int .i64 (T : Int)) rfl (by kernel_rfl) (by kernel_rfl) (by kernel_rfl) (fun _ _ _ h => h) (yieldsIf_load_cell (by rfl) 3 _ rfl _ rfl (fun W hW => hW) (fun W hc => ld_int hc)) (by assumption) ?_
      simp only [Act.put, List.setIfInBounds_toArray, List.set_cons_zero, List.set_cons_succ]
      refine wpAnyH_ready (rs := [4, 9]) (by kernel_rfl) (by simp) ?_
      refine AllReadyH.cons (o := { dst := some 49, op := Op.load 32 (Operand.tmp 48), type := 32, pos := "wal.go:78", after := #[{ on := 3, ground := Ground.data }], guard := none }) rfl (fun K hK => ?_) (AllReadyH.cons (o := { dst := some 54, op := Op.buildSlice 32 1 #[(0, Operand.tmp 53)], type := 32, pos := "wal.go:78", after := #[{ on := 8, ground := Ground.data }], guard := none }) rfl (fun K hK => ?_) (AllReadyH.nil))
      · go_simp
        refine hK.out _ _ (hHeld) (fun hHeld => ?_)
        clear hK K
        try simp only [Act.put, List.setIfInBounds_toArray, List.set_cons_zero, List.set_cons_succ]
        refine wpAnyH_ready (rs := [9]) (by kernel_rfl) (by simp) ?_
        refine AllReadyH.cons (o := { dst := some 54, op := Op.buildSlice 32 1 #[(0, Operand.tmp 53)], type := 32, pos := "wal.go:78", after := #[{ on := 8, ground := Ground.data }], guard := none }) rfl (fun K hK => ?_) (AllReadyH.nil)
        go_simp
        refine hK.out _ _ (((onlyA w5.drew _).cell (p := ⟨l, 4, none⟩) HLO.out.lt (fun h => h)).trans HD4.out) (fun hHeld => ?_)
        clear hK K
        try simp only [Act.put, List.setIfInBounds_toArray, List.set_cons_zero, List.set_cons_succ]
        refine wpAnyH_ready (rs := [10]) (by kernel_rfl) (by simp) ?_
        refine AllReadyH.cons (o := { dst := some 55, op := Op.call { callee := Callee.builtin Builtin.append, args := #[Operand.tmp 49, Operand.tmp 54], argTypes := #[32, 32] }, type := 32, pos := "wal.go:78", after := #[{ on := 4, ground := Ground.data }, { on := 9, ground := Ground.data }], guard := none }) rfl (fun K hK => ?_) (AllReadyH.nil)
        obtain ⟨v9, w6, hap, ow6, on6, bl6⟩ := append_place w5 32 w.heap.size v8 (plc start rs i) HLO.out.pl (T : Int) (HPLC.out trivial) HB5.out (w5.drew.alloc (.cells #[.int .i64 (T : Int)] 3)) (o2 (Only.drew _ w5) (onlyA _ _)) w5.heap.size (one_at w5.drew _ _)
        obtain ⟨ao9, n9, c9, rfl⟩ := own_slice ow6
        have X4 := hide ((on6.cell (p := ⟨l, 4, none⟩) HLO.out.lt (fun h => HLO.out.n2 h.symm)).trans HD4.out)
        have e8 := (on6.cell (p := ⟨l, 8, none⟩) HLO.out.lt (fun h => HLO.out.n2 h.symm)).trans HLO.out.c8
        have f8 := (on6.frozen (p := ⟨l, 8, none⟩) HLO.out.lt (fun h => HLO.out.n2 h.symm)).trans (HLO.out.fz 8)
        have X4S : Hid (∀ u, (w6.setCell ⟨l, 8, none⟩ u).cell? ⟨l, 4, none⟩ = some (.int .i64 (T : Int))) := fun u => (World.cell?_setCell_other _ _ _ _ (by intro e; injection e with _ e; cases e)).trans X4.out
        have OW6 := hide ow6
        have ON6 := hide on6
        have BL6 := hide bl6
        have HAP := hide hap
        clear ow6 on6 bl6 hap
        rw [if_pos (by rfl)]
        refine Lib.wp_append_run _ (.tmp 49) (.tmp 54) _ _ rfl _ _ rfl rfl _ _ HAP.out ?_
        refine hK.out _ _ (X4.out) (fun hHeld => ?_)
        clear hK K
        try simp only [Act.put, List.setIfInBounds_toArray, List.set_cons_zero, List.set_cons_succ]
        refine wpAnyH_take (i := 11) (oi := { dst := some 56, op := Op.nilCheck (Operand.tmp 45), type := 0, pos := "wal.go:78", after := #[{ on := 0, ground := Ground.data }, { on := 0, ground := Ground.phase }, { on := 1, ground := Ground.phase }, { on := 2, ground := Ground.phase }, { on := 3, ground := Ground.phase }, { on := 4, ground := Ground.phase }, { on := 5, ground := Ground.phase }, { on := 6, ground := Ground.phase }, { on := 7, ground := Ground.phase }, { on := 8, ground := Ground.phase }, { on := 9, ground := Ground.phase }, { on := 10, ground := Ground.phase }], guard := none }) (v := .pointer (some ⟨l, 0, none⟩)) rfl (by kernel_rfl) (by kernel_rfl) (by kernel_rfl) (fun _ _ _ h => h) (Or.inl ⟨by rfl, fun w' hSw => by clear hSw; go_simp⟩) (by assumption) ?_
        simp only [Act.put, List.setIfInBounds_toArray, List.set_cons_zero, List.set_cons_succ]
        refine wpAnyH_take (i := 12) (oi := { dst := some 57, op := Op.fieldAddr 62 (Operand.tmp 56) 8, type := 0, pos := "wal.go:78", after := #[{ on := 11, ground := Ground.data }, { on := 0, ground := Ground.phase }, { on := 1, ground := Ground.phase }, { on := 2, ground := Ground.phase }, { on := 3, ground := Ground.phase }, { on := 4, ground := Ground.phase }, { on := 5, ground := Ground.phase }, { on := 6, ground := Ground.phase }, { on := 7, ground := Ground.phase }, { on := 8, ground := Ground.phase }, { on := 9, ground := Ground.phase }, { on := 10, ground := Ground.phase }], guard := none }) (v := .pointer (some ⟨l, 8, none⟩)) rfl (by kernel_rfl) (by kernel_rfl) (by kernel_rfl) (fun _ _ _ h => h) (Or.inl ⟨by rfl, fun w' hSw => by clear hSw; go_simp⟩) (by assumption) ?_
        simp only [Act.put, List.setIfInBounds_toArray, List.set_cons_zero, List.set_cons_succ]
        refine wpAnyH_ready (rs := [13]) (by kernel_rfl) (by simp) ?_
        refine AllReadyH.cons (o := { dst := none, op := Op.store 32 (Operand.tmp 57) (Operand.tmp 55), type := 0, pos := "wal.go:78", after := #[{ on := 12, ground := Ground.data }, { on := 10, ground := Ground.data }, { on := 10, ground := Ground.chain }, { on := 0, ground := Ground.phase }, { on := 1, ground := Ground.phase }, { on := 2, ground := Ground.phase }, { on := 3, ground := Ground.phase }, { on := 4, ground := Ground.phase }, { on := 5, ground := Ground.phase }, { on := 6, ground := Ground.phase }, { on := 7, ground := Ground.phase }, { on := 8, ground := Ground.phase }, { on := 9, ground := Ground.phase }, { on := 10, ground := Ground.phase }], guard := none }) rfl (fun K hK => ?_) (AllReadyH.nil)
        go_simp
        refine hK.out _ _ (X4S.out _) (fun hHeld => ?_)
        clear hK K
        try simp only [Act.put, List.setIfInBounds_toArray, List.set_cons_zero, List.set_cons_succ]
        refine wpAnyH_done (by kernel_rfl) ?_ _
        refine NoPanic.normal ?_
        have HS7 := hide (HS5.out.plc_ (T : Int) ON6.out OW6.out (fun k e => by
          rcases BL6.out with e2 | e2
          · exact .inl (e2.symm.trans e)
          · right
            rw [e2] at e
            injection e with e
            rw [← e]
            simp) HL.out)
        clear g8 g9 d8 e8 f8 hHeld
        obtain ⟨w7, hw7⟩ : ∃ W, w6.setCell ⟨l, 8, none⟩ (.slice ao9 n9 c9) = W := ⟨_, rfl⟩
        rw [hw7] at HS7 ⊢
        clear hw7 d4
        have HS8 := hide (HS7.out.tail_ (T + z) HL.out)
        have q4 : w7.cell? ⟨l, 4, none⟩ = some (.int .i64 (T : Int)) := by
          have := HS7.out.log.c4
          unfold Gi at this
          simp only [HTT.out] at this
          exact this
        have qf4 := HS7.out.log.fz 4
        have HGN : Hid ({ ({ Gi frm n start rs i with places := plc start rs i ++ [(T : Int)] } : Lg) with tail := T + z } = Gi frm n start rs (i + 1)) := by
          unfold Hid Gi
          rw [plc_next, HTT.out, HTN.out]
        have HS9 : Hid (TkS w (w7.setCell ⟨l, 4, none⟩ (.int .i64 ((T + z : Nat) : Int))) l d (Gi frm n start rs (i + 1)) v5 (.slice ao9 n9 c9) (rs.take (i + 1))) := by
          have h8 := HS8.out
          unfold Hid
          rw [← HGN.out]
          exact h8
        have hTz : ((T + z : Nat) : Int) = (T : Int) + (z : Int) := by omega
        have hEz : ((e0 + (encR (rs.take (i + 1))).length : Nat) : Int) = (E : Int) + (z : Int) := by have := HEN.out; omega
        rw [hTz] at HS9
        have HEZ := hide hEz
        clear hTz hEz HGN HS8 HS7
        try rw [Exit.then]
        go_wp2_with fail
        go_roundw
        case rel => exact ⟨i + 1, _, by omega, by rw [HEZ.out], HS9⟩
        case measure => simp [intOf]; omega
      · go_simp
        refine hK.out _ _ (((onlyA w5.drew _).cell (p := ⟨l, 4, none⟩) HLO.out.lt (fun h => h)).trans HD4.out) (fun hHeld => ?_)
        clear hK K
        try simp only [Act.put, List.setIfInBounds_toArray, List.set_cons_zero, List.set_cons_succ]
        refine wpAnyH_ready (rs := [4]) (by kernel_rfl) (by simp) ?_
        refine AllReadyH.cons (o := { dst := some 49, op := Op.load 32 (Operand.tmp 48), type := 32, pos := "wal.go:78", after := #[{ on := 3, ground := Ground.data }], guard := none }) rfl (fun K hK => ?_) (AllReadyH.nil)
        go_simp
        refine hK.out _ _ (hHeld) (fun hHeld => ?_)
        clear hK K
        try simp only [Act.put, List.setIfInBounds_toArray, List.set_cons_zero, List.set_cons_succ]
        refine wpAnyH_ready (rs := [10]) (by kernel_rfl) (by simp) ?_
        refine AllReadyH.cons (o := { dst := some 55, op := Op.call { callee := Callee.builtin Builtin.append, args := #[Operand.tmp 49, Operand.tmp 54], argTypes := #[32, 32] }, type := 32, pos := "wal.go:78", after := #[{ on := 4, ground := Ground.data }, { on := 9, ground := Ground.data }], guard := none }) rfl (fun K hK => ?_) (AllReadyH.nil)
        obtain ⟨v9, w6, hap, ow6, on6, bl6⟩ := append_place w5 32 w.heap.size v8 (plc start rs i) HLO.out.pl (T : Int) (HPLC.out trivial) HB5.out (w5.drew.alloc (.cells #[.int .i64 (T : Int)] 3)) (o2 (Only.drew _ w5) (onlyA _ _)) w5.heap.size (one_at w5.drew _ _)
        obtain ⟨ao9, n9, c9, rfl⟩ := own_slice ow6
        have X4 := hide ((on6.cell (p := ⟨l, 4, none⟩) HLO.out.lt (fun h => HLO.out.n2 h.symm)).trans HD4.out)
        have e8 := (on6.cell (p := ⟨l, 8, none⟩) HLO.out.lt (fun h => HLO.out.n2 h.symm)).trans HLO.out.c8
        have f8 := (on6.frozen (p := ⟨l, 8, none⟩) HLO.out.lt (fun h => HLO.out.n2 h.symm)).trans (HLO.out.fz 8)
        have X4S : Hid (∀ u, (w6.setCell ⟨l, 8, none⟩ u).cell? ⟨l, 4, none⟩ = some (.int .i64 (T : Int))) := fun u => (World.cell?_setCell_other _ _ _ _ (by intro e; injection e with _ e; cases e)).trans X4.out
        have OW6 := hide ow6
        have ON6 := hide on6
        have BL6 := hide bl6
        have HAP := hide hap
        clear ow6 on6 bl6 hap
        rw [if_pos (by rfl)]
        refine Lib.wp_append_run _ (.tmp 49) (.tmp 54) _ _ rfl _ _ rfl rfl _ _ HAP.out ?_
        refine hK.out _ _ (X4.out) (fun hHeld => ?_)
        clear hK K
        try simp only [Act.put, List.setIfInBounds_toArray, List.set_cons_zero, List.set_cons_succ]
        refine wpAnyH_take (i := 11) (oi := { dst := some 56, op := Op.nilCheck (Operand.tmp 45), type := 0, pos := "wal.go:78", after := #[{ on := 0, ground := Ground.data }, { on := 0, ground := Ground.phase }, { on := 1, ground := Ground.phase }, { on := 2, ground := Ground.phase }, { on := 3, ground := Ground.phase }, { on := 4, ground := Ground.phase }, { on := 5, ground := Ground.phase }, { on := 6, ground := Ground.phase }, { on := 7, ground := Ground.phase }, { on := 8, ground := Ground.phase }, { on := 9, ground := Ground.phase }, { on := 10, ground := Ground.phase }], guard := none }) (v := .pointer (some ⟨l, 0, none⟩)) rfl (by kernel_rfl) (by kernel_rfl) (by kernel_rfl) (fun _ _ _ h => h) (Or.inl ⟨by rfl, fun w' hSw => by clear hSw; go_simp⟩) (by assumption) ?_
        simp only [Act.put, List.setIfInBounds_toArray, List.set_cons_zero, List.set_cons_succ]
        refine wpAnyH_take (i := 12) (oi := { dst := some 57, op := Op.fieldAddr 62 (Operand.tmp 56) 8, type := 0, pos := "wal.go:78", after := #[{ on := 11, ground := Ground.data }, { on := 0, ground := Ground.phase }, { on := 1, ground := Ground.phase }, { on := 2, ground := Ground.phase }, { on := 3, ground := Ground.phase }, { on := 4, ground := Ground.phase }, { on := 5, ground := Ground.phase }, { on := 6, ground := Ground.phase }, { on := 7, ground := Ground.phase }, { on := 8, ground := Ground.phase }, { on := 9, ground := Ground.phase }, { on := 10, ground := Ground.phase }], guard := none }) (v := .pointer (some ⟨l, 8, none⟩)) rfl (by kernel_rfl) (by kernel_rfl) (by kernel_rfl) (fun _ _ _ h => h) (Or.inl ⟨by rfl, fun w' hSw => by clear hSw; go_simp⟩) (by assumption) ?_
        simp only [Act.put, List.setIfInBounds_toArray, List.set_cons_zero, List.set_cons_succ]
        refine wpAnyH_ready (rs := [13]) (by kernel_rfl) (by simp) ?_
        refine AllReadyH.cons (o := { dst := none, op := Op.store 32 (Operand.tmp 57) (Operand.tmp 55), type := 0, pos := "wal.go:78", after := #[{ on := 12, ground := Ground.data }, { on := 10, ground := Ground.data }, { on := 10, ground := Ground.chain }, { on := 0, ground := Ground.phase }, { on := 1, ground := Ground.phase }, { on := 2, ground := Ground.phase }, { on := 3, ground := Ground.phase }, { on := 4, ground := Ground.phase }, { on := 5, ground := Ground.phase }, { on := 6, ground := Ground.phase }, { on := 7, ground := Ground.phase }, { on := 8, ground := Ground.phase }, { on := 9, ground := Ground.phase }, { on := 10, ground := Ground.phase }], guard := none }) rfl (fun K hK => ?_) (AllReadyH.nil)
        go_simp
        refine hK.out _ _ (X4S.out _) (fun hHeld => ?_)
        clear hK K
        try simp only [Act.put, List.setIfInBounds_toArray, List.set_cons_zero, List.set_cons_succ]
        refine wpAnyH_done (by kernel_rfl) ?_ _
        refine NoPanic.normal ?_
        have HS7 := hide (HS5.out.plc_ (T : Int) ON6.out OW6.out (fun k e => by
          rcases BL6.out with e2 | e2
          · exact .inl (e2.symm.trans e)
          · right
            rw [e2] at e
            injection e with e
            rw [← e]
            simp) HL.out)
        clear g8 g9 d8 e8 f8 hHeld
        obtain ⟨w7, hw7⟩ : ∃ W, w6.setCell ⟨l, 8, none⟩ (.slice ao9 n9 c9) = W := ⟨_, rfl⟩
        rw [hw7] at HS7 ⊢
        clear hw7 d4
        have HS8 := hide (HS7.out.tail_ (T + z) HL.out)
        have q4 : w7.cell? ⟨l, 4, none⟩ = some (.int .i64 (T : Int)) := by
          have := HS7.out.log.c4
          unfold Gi at this
          simp only [HTT.out] at this
          exact this
        have qf4 := HS7.out.log.fz 4
        have HGN : Hid ({ ({ Gi frm n start rs i with places := plc start rs i ++ [(T : Int)] } : Lg) with tail := T + z } = Gi frm n start rs (i + 1)) := by
          unfold Hid Gi
          rw [plc_next, HTT.out, HTN.out]
        have HS9 : Hid (TkS w (w7.setCell ⟨l, 4, none⟩ (.int .i64 ((T + z : Nat) : Int))) l d (Gi frm n start rs (i + 1)) v5 (.slice ao9 n9 c9) (rs.take (i + 1))) := by
          have h8 := HS8.out
          unfold Hid
          rw [← HGN.out]
          exact h8
        have hTz : ((T + z : Nat) : Int) = (T : Int) + (z : Int) := by omega
        have hEz : ((e0 + (encR (rs.take (i + 1))).length : Nat) : Int) = (E : Int) + (z : Int) := by have := HEN.out; omega
        rw [hTz] at HS9
        have HEZ := hide hEz
        clear hTz hEz HGN HS8 HS7
        try rw [Exit.then]
        go_wp2_with fail
        go_roundw
        case rel => exact ⟨i + 1, _, by omega, by rw [HEZ.out], HS9⟩
        case measure => simp [intOf]; omega
    · have ei : i = rs.length := by omega
      have HX0 : Hid (bl X = []) := by
        unfold Hid
        rw [HX.out, ei, List.drop_length]
        rfl
      have HE2 : Hid (E = told.size) := by
        unfold Hid
        have h2 := HSZ.out
        have h3 := HE0.out
        have h4 := HE.out
        rw [ei, List.take_length] at h4
        omega
      have HSF : Hid (TkS w wr l d (Gi frm n start rs rs.length) u5 v8 rs) := by
        have h1 := HS.out
        unfold Hid
        rw [ei, List.take_length] at h1
        exact h1
      clear ei HS
      go_wp2_with fail
      refine (HDEC.out _).mono ?_
      rintro e w2 hq
      obtain ⟨r2, n2, c2, L2, hd, hat, rfl⟩ := hq.ex
      have hx0 : (bl X).length < 8 := by rw [HX0.out]; simp
      obtain ⟨e1, e2, e3⟩ := hd.short hx0
      rw [e1, e2, e3]
      have HS2 := hide (HSF.out.more hq.only)
      have HNEW := hide (there_new w2 Rc.none Loc.none)
      have HOA := hide (onlyA w2 (.cells (Rc.none.cells Loc.none) 37))
      clear hq hd hat e1 e2 e3 hx0
      obtain ⟨b7, hb7⟩ : ∃ b, w2.heap.size = b := ⟨_, rfl⟩
      rw [hb7] at HNEW
      go_upto_region 5 with (refine wpList_lay_rec rfl (.tmp 7) (.tmp 27) rfl b7 rfl Rc.none L2 rfl HNEW.out ?_; intro W3 HW3; go_frame)
      have HS3 : Hid (TkS w W3 l d (Gi frm n start rs rs.length) u5 v8 rs) := by
        have h3 : Only (fun _ => False) w2 W3 := HOA.out.trans HW3.out.only (fun i hi e => by omega)
        exact HS2.out.more h3
      clear HW3 HNEW HOA HS2 HDEC
      go_wp2_with fail
      go_region
      go_upto_region 10 with fail
      obtain ⟨W4, hW4⟩ : ∃ W, W3.drew = W := ⟨_, rfl⟩
      have HS4 : Hid (TkS w W4 l d (Gi frm n start rs rs.length) u5 v8 rs) := by unfold Hid; rw [← hW4]; exact HS3.out.more (Only.drew _ _)
      rw [hW4]
      clear hW4 HS3
      obtain ⟨W5, cap, hcv, hby, ho5, hc1, hc2⟩ := bytes_bys W4 told (by have := HSZ.out; have := HE0.out; omega)
      have hY := extract_all told E HE2.out
      have HS5 := hide (HS4.out.more ho5)
      obtain ⟨B, hB⟩ : ∃ B, W4.heap.size = B := ⟨_, rfl⟩
      rw [hB] at hcv hby
      have HBW : Hid (w.heap.size ≤ B) := by unfold Hid; have := HS4.out.only.size; omega
      have HBY := hide hby
      have hE3 : (E : Int) ≤ (told.size : Int) := by omega
      have c7 := HS5.out.log.c7
      have f7 := HS5.out.log.fz 7
      have f5 := HS5.out.log.fz 5
      have c5 := HS5.out.log.c5
      have c4 := HS5.out.log.c4
      unfold Gi at c5 c4
      simp only at c5 c4
      have HFIN := hide (LogOw.fin (frm := frm) (n := n) (start := start) (T := tk start rs rs.length) (places := plc start rs rs.length) HS5.out.log HBY.out (by have := HBW.out; have := HL.out; omega) (by rw [bl_len]; exact hc1) hc2)
      rw [bl_len] at HFIN
      obtain ⟨T, hT⟩ : ∃ T, tk start rs rs.length = T := ⟨_, rfl⟩
      rw [hT] at c4 HFIN
      have HTT := hide hT
      clear hby ho5 hc1 hB hT
      go_wp2_with fail
      go_ret
      obtain ⟨acc, h1, h2⟩ := HS5.out.recs
      refine ⟨_, acc, B, cap, v8, rfl, own_kept h1 HFIN.out.2 (fun k e q => ?_), h2, ?_, HS5.out.only.trans HFIN.out.2 (fun _ _ e => e), HBW.out⟩
      · have := (World.ownsRow.lt h1 k e).1
        have := HL.out
        omega
      · rw [HTT.out]
        exact HFIN.out.1
end Go.Proofs.YtcbdpdkmkncffaaGreatDoor

namespace Go.Proofs.YtcbdpdkmkncffaaGreatDoor
open Go.RowKit

theorem bwrite (B b : Nat) (bs : List Value) (s : ByteArray) (w : World) (h : Lib.IsBuilder 94 5 B b bs w) (hlen : bs.length + s.size ≤ 140737488355328) (hBw : B ≤ w.heap.size) :
    Calls Tryz.prog 43 #[.pointer (some ⟨b, 0, none⟩), .string s] w fun e w' => e = .returned (.tuple #[.int .i64 s.size, .nilIface]) ∧ (Lib.BuilderAt 94 5 B b (.pointer (some ⟨b, 0, none⟩)) (bs ++ Lib.strCells s) w' ∧ Below B w w') :=
  Any.Builder_WriteString (P := Tryz.prog) (ρ := Tryz.lays105_ren) { Tryz.lays105 with } Tryz.Builder_Extra_105 B b bs s w h hlen hBw
theorem secL_len (ring : List UInt8) (n k : Nat) (hr : ring.length = n * 64) (hn : 0 < n) : (secL ring n k).length = 64 := by
  unfold secL
  have := Nat.mod_lt k hn
  rw [List.length_take, List.length_drop, hr]
  omega
set_option maxRecDepth 100000 in
set_option maxHeartbeats 1600000 in
theorem there_one (w : World) (ring : ByteArray) (n p : Nat) (hr : ring.size = n * 64) (hn0 : 0 < n) (hn : n ≤ 65536) (hp1 : 1 ≤ p) (hp2 : p < 1099511627776) (hk : (p - 1) / 54 < 4294967295)
    (hT : (tellsL (secL (bl ring) n ((p - 1) / 54)) ((p - 1) / 54)).length < 54) (ha : (p - 1) % 54 ≤ (tellsL (secL (bl ring) n ((p - 1) / 54)) ((p - 1) / 54)).length) :
    Calls Tryz.prog 51 #[.string ring, .int .i64 (p : Int)] w fun e w' => e = .returned (.string (str (tellsL (secL (bl ring) n ((p - 1) / 54)) ((p - 1) / 54)))) ∧ Only (fun _ => False) w w' := by
  have HBL := hide (fun W => blockOf_any p W hp1 (by omega))
  have HAH := hide (fun W => ahead_any p W hp1 (by omega))
  obtain ⟨k, hkk⟩ : ∃ k, (p - 1) / 54 = k := ⟨_, rfl⟩
  obtain ⟨a, haa⟩ : ∃ a, (p - 1) % 54 = a := ⟨_, rfl⟩
  rw [hkk] at hT ha hk
  rw [haa] at ha
  simp only [hkk] at HBL
  simp only [haa] at HAH
  rw [hkk]
  have HSE := hide (fun W => sectorOf_any W ring n k hr hn0 hn (by omega))
  have hsl : (str (secL (bl ring) n k)).size = 64 := by rw [str_size]; exact secL_len _ _ _ (by rw [bl_len]; exact hr) hn0
  have HTE := hide (fun W => tells_any W (str (secL (bl ring) n k)) k hsl hk)
  simp only [bl_str] at HTE
  obtain ⟨T, hTT⟩ : ∃ T, tellsL (secL (bl ring) n k) k = T := ⟨_, rfl⟩
  rw [hTT] at hT ha
  simp only [hTT] at HTE
  rw [hTT]
  obtain ⟨X, hX⟩ : ∃ X, str (secL (bl ring) n k) = X := ⟨_, rfl⟩
  simp only [hX] at HSE HTE
  have hTs : (str T).size = T.length := str_size T
  have HTX : Hid (Lib.strCells (str T) = Lib.byteCells T) := rfl
  obtain ⟨Y, hY⟩ : ∃ Y, str T = Y := ⟨_, rfl⟩
  simp only [hY] at HTE HTX
  rw [hY] at hTs
  rw [hY]
  have HY := hide hY
  have hq : (ring.size : Int) / 64 = (n : Int) := by omega
  have hq2 : (ring.size : Int).tdiv 64 = (n : Int) := by rw [Int.tdiv_eq_ediv_of_nonneg (by omega)]; exact hq
  have hkn : (k : Int) < (k : Int) + (n : Int) := by omega
  have hYs : (Y.size : Int) < 54 := by omega
  have hla : ¬ (Y.size : Int) < (a : Int) := by omega
  have HTS := hide hTs
  clear hkk haa hTT hX hY hsl hr hT hTs
  have HBU := hide (Lib.fresh_isBuilder 94 5 w)
  have HO0 := hide (onlyA w (.cells #[.pointer none, .slice none 0 0] 94))
  obtain ⟨b, hb⟩ : ∃ b, w.heap.size = b := ⟨_, rfl⟩
  obtain ⟨W1, hW1⟩ : ∃ W, w.alloc (.cells #[.pointer none, .slice none 0 0] 94) = W := ⟨_, rfl⟩
  rw [hW1] at HBU HO0
  rw [hb] at HBU
  have HW1 := hide hW1
  have HB := hide hb
  clear hW1 hb
  go_enter Tryz.func51, Tryz.ntmps51
  go_wp2_with fail
  rw [HW1.out, HB.out]
  refine (HBL.out _).mono ?_
  rintro e w2 ⟨rfl, hw⟩
  obtain rfl := hw.symm
  clear hw
  go_wp2_with fail
  go_loopw [7] (fun t wr => t = .int .i64 (k : Int) ∧ Hid (wr = W1)) (fun _ _ => 0)
  case atStart => exact ⟨rfl, rfl⟩
  case round =>
    obtain ⟨rfl, HWR⟩ := hrel
    have hwr := HWR.out
    have HBU2 : Hid (Lib.IsBuilder 94 5 b b [] wr) := by unfold Hid; rw [hwr]; exact HBU.out
    have HOW : Hid (Only (fun _ => False) w wr) := by unfold Hid; rw [hwr]; exact HO0.out
    clear hwr HWR
    go_wp2_with fail
    refine (HSE.out _).mono ?_
    rintro e w3 ⟨rfl, hw⟩
    obtain rfl := hw.symm
    clear hw
    go_wp2_with fail
    refine (HTE.out _).mono ?_
    rintro e w4 ⟨rfl, ho4⟩
    have HBU4 : Hid (Lib.IsBuilder 94 5 b b [] w4) := by
      unfold Hid
      have hlt : b < wr.heap.size := by
        rcases HBU2.out with h | h
        · exact h.lt
        · exact h.lt
      rcases HBU2.out with ⟨h1, v, h2, h3, h4⟩ | ⟨h1, v, h2, h3, h4⟩
      · refine .inl ⟨h1, v, ?_, ?_, h4⟩
        · rw [ho4.block b hlt (fun h => h)]; exact h2
        · exact own_only h3 ho4 (fun _ _ h => h)
      · refine .inr ⟨h1, v, ?_, ?_, h4⟩
        · rw [ho4.block b hlt (fun h => h)]; exact h2
        · exact own_only h3 ho4 (fun _ _ h => h)
    have HO4 := hide (o2 HOW.out ho4)
    clear ho4
    go_wp2_with fail
    refine (bwrite b b [] Y w4 HBU4.out (by simp; omega) (by have := HO4.out.size; have := HB.out; omega)).mono ?_
    rintro e w5 ⟨rfl, hb5, hbel⟩
    have HBU5 : Hid (Lib.IsBuilder 94 5 b b (Lib.byteCells T) w5) := by
      unfold Hid
      rw [List.nil_append, HTX.out] at hb5
      exact .inr hb5
    have HO5 : Hid (Only (fun _ => False) w w5) := by
      unfold Hid
      have h4 := HO4.out
      exact ⟨hbel.os.trans h4.os, hbel.tape.trans h4.tape, hbel.output.trans h4.output, Nat.le_trans h4.size hbel.size, fun j hj _ => (hbel.block j (by have := HB.out; omega)).trans (h4.block j hj (fun h => h))⟩
    clear hb5 hbel
    have HLEN := hide (Tryz.Builder_Len b b (Lib.byteCells T) w5 HBU5.out)
    rw [Lib.byteCells_length] at HLEN
    have hTa : ¬ (T.length : Int) < (a : Int) := by have := HTS.out; omega
    have HSTR := hide (Tryz.Builder_String_any b b T w5 HBU5.out (by have := HO5.out.size; have := HB.out; omega))
    go_wp2_with fail
    refine HLEN.out.mono ?_
    rintro e w6 ⟨rfl, hw⟩
    obtain rfl := hw.symm
    clear hw
    go_wp2_with fail
    refine (HAH.out _).mono ?_
    rintro e w6 ⟨rfl, hw⟩
    obtain rfl := hw.symm
    clear hw
    go_wp2_with fail
    refine HSTR.out.mono ?_
    rintro e w7 ⟨rfl, hbel⟩
    have HO7 : Hid (Only (fun _ => False) w w7) := by
      unfold Hid
      have h4 := HO5.out
      exact ⟨hbel.os.trans h4.os, hbel.tape.trans h4.tape, hbel.output.trans h4.output, Nat.le_trans h4.size hbel.size, fun j hj _ => (hbel.block j (by have := HB.out; omega)).trans (h4.block j hj (fun h => h))⟩
    clear hbel
    go_wp2_with fail
    go_ret
    exact ⟨by rw [← HY.out]; rfl, HO7.out⟩
end Go.Proofs.YtcbdpdkmkncffaaGreatDoor

namespace Go.Proofs.YtcbdpdkmkncffaaGreatDoor
open Go.RowKit

set_option maxRecDepth 100000 in
set_option maxHeartbeats 1600000 in
theorem wipe_none (w : World) (l d : Nat) (G : Lg) (B : Nat) (ao : Option Addr) (cp : Nat) (v8 : Value) (h : LogAt w l d G B ao cp v8) (ok : G.Ok) (hs : G.start ≤ 54) (hn64 : G.n ≤ 64) (ht3 : G.tail ≤ 3000) (ring : ByteArray) (hr : ring.size = G.n * 64)
    (hsame : ∀ k, k < G.n → k < (G.tail - 1) / 54 ∨ secL (bl ring) G.n k = holdL k (G.block k)) (hbl : ∀ k, (G.block k).length ≤ 54) :
    Calls Tryz.prog 52 #[.pointer (some ⟨l, 0, none⟩), .string ring] w fun e w' => e = .returned (.int .i64 0) ∧ Only (fun _ => False) w w' := by
  have hb0 : G.b0 = 0 := by unfold Lg.b0; omega
  have hst := ok.st
  have htl := ok.tl
  have hn4 := ok.n4
  have c2 := h.c2
  have c3 := h.c3
  have c4 := h.c4
  have HLG := hide h
  have HOK := hide ok
  have HSE := hide (fun W k (hk : k < G.n) => sectorOf_any W ring G.n k hr (by omega) (by omega) (by omega))
  have HBK := hide (fun W (hW : LogAt W l d G B ao cp v8) k (hk : k < G.n) => block_any W l d G B ao cp v8 hW ok k (by rw [hb0]; omega) (by omega))
  have HSM := hide hsame
  have HBL := hide hbl
  have HQ1 : Hid (∀ W, Calls Tryz.prog 30 #[.int .i64 (G.start : Int)] W fun e w' => e = .returned (.int .i64 0) ∧ w' = W) := by
    intro W
    have q := blockOf_any G.start W hst (by omega)
    rw [show (G.start - 1) / 54 = 0 by omega] at q
    exact q
  have HQ2 := hide (fun W => blockOf_any G.tail W (by omega) (by omega))
  obtain ⟨st, hst'⟩ : ∃ s, G.start = s := ⟨_, rfl⟩
  obtain ⟨tl, htl'⟩ : ∃ s, G.tail = s := ⟨_, rfl⟩
  obtain ⟨N, hN⟩ : ∃ s, G.n = s := ⟨_, rfl⟩
  simp only [hst'] at HQ1 c3
  simp only [htl'] at HQ2 HSM c4
  simp only [hN] at HSE HBK HSM c2 hn4 hn64
  rw [htl'] at htl ht3
  obtain ⟨la, hla⟩ : ∃ s, (tl - 1) / 54 = s := ⟨_, rfl⟩
  simp only [hla] at HQ2 HSM
  have hN' := hide hN
  clear h ok hsame hbl hb0 hst' htl' hN hr hs
  have hlab : la ≤ 60 := by omega
  clear hst htl ht3 hla
  go_enter Tryz.func52, Tryz.ntmps52
  go_wp2_with fail
  go_quiet ((first
    | (go_at_call 30; exact Calls.quiet_of_same (HQ1.out _))
    | (go_at_call 30; exact Calls.quiet_of_same (HQ2.out _))))
  go_wp2_with fail
  clear c2 c3 c4
  go_loopw [7, 25] (fun u t wr => ∃ i : Nat, i ≤ N ∧ u = .bool false ∧ t = .int .i64 (i : Int) ∧ Hid (Only (fun _ => False) w wr)) (fun _ t _ => N - (intOf t).toNat)
  case atStart => exact ⟨0, by omega, rfl, rfl, onlyN _ _⟩
  case round =>
    obtain ⟨i, hi, rfl, rfl, HO⟩ := hrel
    have HL2 := hide (HLG.out.more HO.out)
    have c2 := HL2.out.c2
    rw [hN'.out] at c2
    by_cases hlt : i < N
    · have hm0 : (0 : Int).tmod (N : Int) = 0 := Int.zero_tmod _
      have hm1 : ((i : Int) + (N : Int)).tmod (N : Int) = (i : Int) := by
        rw [Int.tmod_eq_emod_of_nonneg (by omega), Int.add_emod_right, Int.emod_eq_of_lt (by omega) (by omega)]
      have hM0 : (0 : Int) ≤ (i : Int) + (N : Int) ∧ (i : Int) + (N : Int) ≤ 128 := by omega
      obtain ⟨M, hM⟩ : ∃ M : Int, (i : Int) + (N : Int) = M := ⟨_, rfl⟩
      rw [hM] at hm1 hM0
      have hN0 : (N : Int) ≠ 0 := by omega
      have hiN : (i : Int) < (N : Int) := by omega
      have HOD := hide (o2 HO.out (Only.drew _ wr))
      by_cases hlk : i < la
      · have hlk' : (i : Int) < (la : Int) := by omega
        go_upto_region 6 with fail
        go_region
        go_wp2_with fail
        go_roundw
        case rel => exact ⟨i + 1, by omega, rfl, by go_num, HOD⟩
        case measure => simp [intOf]; omega
      · have hlk' : ¬ (i : Int) < (la : Int) := by omega
        have HY : Hid (secL (bl ring) N i = holdL i (G.block i)) := (HSM.out i hlt).resolve_left hlk
        have HSE2 := hide (fun W => HSE.out W i hlt)
        have HBK2 := hide (fun W hW => HBK.out W hW i hlt)
        obtain ⟨Y, hY⟩ : ∃ Y, str (secL (bl ring) N i) = Y := ⟨_, rfl⟩
        simp only [hY] at HSE2
        have HYE : Hid (str (holdL i (G.block i)) = Y) := by unfold Hid; rw [← HY.out]; exact hY
        have HLD := hide (HL2.out.more (Only.drew _ wr))
        clear hY
        go_upto_region 6 with fail
        go_region
        go_wp2_with fail
        refine (HSE2.out _).mono ?_
        rintro e w5 ⟨rfl, hw⟩
        obtain rfl := hw.symm
        clear hw
        go_wp2_with fail
        refine (HBK2.out _ HLD.out).mono ?_
        rintro e w5 ⟨⟨A2, c5, rfl, hby⟩, hw⟩
        obtain rfl := hw.symm
        clear hw
        have HH := hide (hold_any wr.drew i B c5 A2 (G.block i) hby (by omega) (HBL.out i))
        rw [HYE.out] at HH
        clear hby
        go_wp2_with fail
        refine HH.out.mono ?_
        rintro e w6 ⟨rfl, ho6⟩
        have HO6 := hide (o2 HOD.out ho6)
        clear ho6
        go_wp2_with fail
        go_roundw
        case rel => exact ⟨i + 1, by omega, rfl, by go_num, HO6⟩
        case measure => simp [intOf]; omega
    · have hiN : ¬ (i : Int) < (N : Int) := by omega
      go_wp2_with fail
      go_ret
      exact ⟨rfl, HO.out⟩
end Go.Proofs.YtcbdpdkmkncffaaGreatDoor

namespace Go.Proofs.YtcbdpdkmkncffaaGreatDoor
open Go.RowKit

theorem log_raw (w : World) (d frm n start base : Nat) : LogOw (w.alloc (.cells #[.pointer (some ⟨d, 0, none⟩), .int .i64 (frm : Int), .int .i64 (n : Int), .int .i64 (start : Int), .int .i64 0, .int .i64 0, .int .i64 0, .slice none 0 0, .slice none 0 0] 62)) w.heap.size d ⟨frm, n, start, 0, 0, 0, [], []⟩ base (.slice none 0 0) (.slice none 0 0) := by
  refine ⟨by simp, by simp, by simp, by simp, by simp, by simp, by simp, by simp, by simp, fun j => by simp, by simp, ⟨World.ownsRow_nil _ _ _ _, rfl⟩, World.ownsRow_nil _ _ _ _, (by simp [Value.ownBlock]), (by simp [Value.ownBlock]), (fun k e => by simp [Value.ownBlock] at e)⟩
/-- The log that Open finds. -/
def Lg.found (frm n start : Nat) (pre : List UInt8) (rs : List Rc) : Lg := ⟨frm, n, start, tk start rs rs.length, tk start rs rs.length, 0, pre ++ encR rs, plc start rs rs.length⟩
set_option maxRecDepth 100000 in
set_option maxHeartbeats 1600000 in
theorem open_ok (w : World) (d g m : Nat) (D : Dk) (hD : Dsk w d g m D) (frm n start : Nat) (hf : fitsB D.old.length frm n = true) (hdead : D.dead = false) (hfit : frm + n ≤ D.old.length) (hfrm : frm ≤ 64) (hn4 : 4 ≤ n) (hn : n ≤ 64) (hs1 : 1 ≤ start) (hs : start ≤ 54)
    (pre : List UInt8) (rs : List Rc) (hT : tellsL (secL (D.bytes frm n) n 0) 0 = pre ++ encR rs) (hTl : (pre ++ encR rs).length < 54) (hpre : pre.length = (start - 1) % 54) (hC : Chn start rs) (hrs : rs.length ≤ 1000)
    (hsame : ∀ k, k < n → k < (tk start rs rs.length - 1) / 54 ∨ secL (D.bytes frm n) n k = holdL k ((Lg.found frm n start pre rs).block k)) :
    Calls Tryz.prog 26 #[.pointer (some ⟨d, 0, none⟩), .int .i64 (frm : Int), .int .i64 (n : Int), .int .i64 (start : Int)] w fun e w' => ∃ l v5 acc B cp v8, e = .returned (.tuple #[.pointer (some ⟨l, 0, none⟩), v5, .int .i64 0]) ∧ Ow w' w.heap.size v5 acc ∧ acc.map (fun z => z.1) = rs ∧ LogAt w' l d (Lg.found frm n start pre rs) B (some ⟨B, 0, none⟩) cp v8 ∧ Only (fun _ => False) w w' := by
  have hbl : (D.bytes frm n).length = n * 64 := by rw [bytes_len hD.ok frm n hfit]; omega
  have htk : tk start rs rs.length ≤ 200 := by
    unfold tk
    rw [List.take_length]
    rw [List.length_append] at hTl
    omega
  have htk1 : start ≤ tk start rs rs.length := by unfold tk; omega
  obtain ⟨ring, hring⟩ : ∃ ring, (⟨(D.bytes frm n).toArray⟩ : ByteArray) = ring := ⟨_, rfl⟩
  have hrb : bl ring = D.bytes frm n := by rw [← hring]
  have hrs64 : ring.size = n * 64 := by rw [← bl_len, hrb]; exact hbl
  have hok : (Lg.found frm n start pre rs).Ok := ⟨hs1, htk1, by show tk start rs rs.length < _; omega, Nat.le_refl _, hn4, by show n ≤ _; omega, by show frm ≤ _; omega, by show 0 ≤ _; omega, by show (pre ++ encR rs).length < _; omega⟩
  have HFI := hide (fits_any w d g m D hD frm n ⟨by omega, by omega⟩)
  rw [hf] at HFI
  have HRD := hide (read_ok w d g m D hD frm n hdead hfit)
  rw [hring] at HRD
  have hb0 : (start - 1) / 54 = 0 := by omega
  have HTH := hide (fun W => there_one W ring n start hrs64 (by omega) (by omega) hs1 (by omega) (by omega) (by rw [hb0, hrb, hT]; exact hTl) (by rw [hb0, hrb, hT, List.length_append, hpre]; omega))
  simp only [hb0, hrb, hT] at HTH
  have HTA := hide (fun W l (hL : LogOw W l d ⟨frm, n, start, 0, 0, 0, [], []⟩ W.heap.size (.slice none 0 0) (.slice none 0 0)) => wtake_all W l d frm n start (str (pre ++ encR rs)) pre rs hL hs1 (by omega) hpre (by rw [bl_str]) hC hrs)
  simp only [bl_str] at HTA
  have HWI := hide (fun W l B ao cp v8 (hL : LogAt W l d (Lg.found frm n start pre rs) B ao cp v8) => wipe_none W l d _ B ao cp v8 hL hok hs hn (by show tk start rs rs.length ≤ _; omega) ring hrs64 (by rw [hrb]; exact hsame) (fun k => by unfold Lg.block; rw [List.length_take]; omega))
  obtain ⟨X, hX⟩ : ∃ X, str (pre ++ encR rs) = X := ⟨_, rfl⟩
  simp only [hX] at HTH HTA
  have hs54 : (start : Int) ≤ 54 := by omega
  have hs1' : ¬ (start : Int) < 1 := by omega
  clear hD hf hdead hfit hT hTl hpre hC hrs hsame hbl htk htk1 hring hrb hrs64 hok hb0 hX
  go_enter Tryz.func26, Tryz.ntmps26
  go_wp2_with fail
  refine HFI.out.mono ?_
  rintro e w1 ⟨rfl, hw⟩
  obtain rfl := hw.symm
  clear hw
  go_wp2_with fail
  refine HRD.out.mono ?_
  rintro e w2 ⟨rfl, ho2⟩
  have HO2 := hide ho2
  clear ho2
  have HRAW := hide (fun base => log_raw w2 d frm n start base)
  have HOL := hide (onlyA w2 (.cells #[.pointer (some ⟨d, 0, none⟩), .int .i64 (frm : Int), .int .i64 (n : Int), .int .i64 (start : Int), .int .i64 0, .int .i64 0, .int .i64 0, .slice none 0 0, .slice none 0 0] 62))
  go_upto_region 7 with fail
  obtain ⟨l, hl⟩ : ∃ l, w2.heap.size = l := ⟨_, rfl⟩
  obtain ⟨W3, hW3⟩ : ∃ W, w2.alloc (.cells #[.pointer (some ⟨d, 0, none⟩), .int .i64 (frm : Int), .int .i64 (n : Int), .int .i64 (start : Int), .int .i64 0, .int .i64 0, .int .i64 0, .slice none 0 0, .slice none 0 0] 62) = W := ⟨_, rfl⟩
  rw [hW3] at HRAW HOL ⊢
  rw [hl] at HRAW ⊢
  have HLW : Hid (w.heap.size ≤ l) := by unfold Hid; rw [← hl]; exact HO2.out.size
  clear hW3 hl
  have HO3 := hide (o2 HO2.out HOL.out)
  go_wp2_with fail
  refine (HTH.out _).mono ?_
  rintro e w4 ⟨rfl, ho4⟩
  have HRAW4 := hide ((HRAW.out w4.heap.size).more ho4)
  have HO4 := hide (o2 HO3.out ho4)
  clear ho4
  go_wp2_with fail
  refine (HTA.out _ l HRAW4.out).mono ?_
  rintro e w5 ⟨v5, acc, B, cp, v8, rfl, how, hacc, hlog, ho5, hB⟩
  have HOW := hide how
  have HAC := hide hacc
  have HLOG : Hid (LogAt w5 l d (Lg.found frm n start pre rs) B (some ⟨B, 0, none⟩) cp v8) := hlog
  have HO5 : Hid (Only (fun _ => False) w w5) := HO4.out.trans ho5 (fun i hi e => by have := HLW.out; omega)
  have HS4 : Hid (w.heap.size ≤ w4.heap.size) := HO4.out.size
  clear how hacc hlog ho5 hB
  go_wp2_with fail
  refine (HWI.out _ l B _ cp v8 HLOG.out).mono ?_
  rintro e w6 ⟨rfl, ho6⟩
  have HO6 := hide (o2 HO5.out ho6)
  have HOW6 := hide (HOW.out.more ho6)
  have HLOG6 := hide (HLOG.out.more ho6)
  clear ho6
  go_wp2_with fail
  go_ret3
  refine ⟨l, v5, acc, B, cp, v8, rfl, ?_, HAC.out, HLOG6.out, HO6.out⟩
  have h6 := HOW6.out
  obtain ⟨a1, a2⟩ := h6
  refine ⟨a1, a2.imp id ?_⟩
  rintro ⟨gg, cc, cur, e1, e2, rest⟩
  exact ⟨gg, cc, cur, e1, by have := HS4.out; omega, rest⟩
end Go.Proofs.YtcbdpdkmkncffaaGreatDoor
