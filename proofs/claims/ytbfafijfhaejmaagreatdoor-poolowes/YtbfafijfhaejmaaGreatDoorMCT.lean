/- What Open does of a log that stands whole in its first block. -/
import Derived.Test.YtbfafijfhaejmaaGreatDoorRDec
import Derived.Test.YtbfafijfhaejmaaGreatDoorMB
import Derived.Deep.RegionHeld3
import Derived.Laws.IdiomStrings
import Derived.Test.YtbfafijfhaejmaaGreatDoorMW
import Derived.Test.YtbfafijfhaejmaaGreatDoorPShelf
import Derived.Test.YtbfafijfhaejmaaGreatDoorWShelf
import Derived.BigQuiet
import Derived.Deep.Draws
namespace Go.Proofs.YtbfafijfhaejmaaGreatDoor
open Go.RowKit

/-- A record and where its lists lie. -/
abbrev Lr := Rc × Loc
def rcl (z : Lr) : List Value := z.1.cl z.2
theorem rcl_len (z : Lr) : (rcl z).length = 16 := cl_len _ _
/-- Records that a slice at ao leads to, in block B. -/
structure Rls (w : World) (B : Nat) (ao : Option Addr) (l : List Lr) : Prop where
  at_ : 0 < l.length → ∃ o, ao = some ⟨B, o, none⟩ ∧ ∀ j (h : j < l.length), w.rangeAt B (o + j * 16) (rcl l[j])
  each : ∀ z ∈ l, RcAt w z.1 z.2
  len : l.length * 216 ≤ 140737488351232
theorem range_go {S : Nat → Prop} {w w' : World} {b o : Nat} {cs : List Value} (h : w.rangeAt b o cs) (ho : Only S w w') (hS : ¬ S b) : w'.rangeAt b o cs := fun j v hv => by
  have h1 := h j v hv
  exact (ho.cell (p := ⟨b, o + j, none⟩) (World.block_lt_of_cell? w _ h1) hS).trans h1
theorem Rls.more {w w' : World} {B : Nat} {ao : Option Addr} {l : List Lr} (h : Rls w B ao l) (ho : Only (fun _ => False) w w') : Rls w' B ao l :=
  ⟨fun h0 => by
    obtain ⟨o, e, hc⟩ := h.at_ h0
    exact ⟨o, e, fun j hj => range_go (hc j hj) ho (fun h => h)⟩, fun z hz => (h.each z hz).go ho, h.len⟩
/-- Records that the value v owns. -/
def Ow (w : World) (base : Nat) (v : Value) (l : List Lr) : Prop := w.ownsRow base 59 16 v l.length (l.flatMap rcl)
theorem Ow.kept {S : Nat → Prop} {w w' : World} {base : Nat} {v : Value} {l : List Lr} (h : Ow w base v l) (ho : Only S w w') (hS : ∀ k, base ≤ k → ¬ S k) : Ow w' base v l :=
  own_kept h ho (fun b hb => hS b (World.ownsRow.lt h b hb).1)
theorem Ow.more {w w' : World} {base : Nat} {v : Value} {l : List Lr} (h : Ow w base v l) (ho : Only (fun _ => False) w w') : Ow w' base v l := own_kept h ho (fun _ _ h => h)
theorem Ow.nil (w : World) (base : Nat) : Ow w base (.slice none 0 0) [] := World.ownsRow_nil _ _ _ _
theorem Ow.form {w : World} {base : Nat} {v : Value} {l : List Lr} (h : Ow w base v l) : (v = .slice none 0 0 ∧ l = []) ∨ ∃ g cap, v = .slice (some ⟨g, 0, none⟩) l.length cap ∧ base ≤ g ∧ (∀ j (hj : j < l.length), w.rangeAt g (j * 16) (rcl l[j])) := by
  rcases own_form h with ⟨rfl, h0⟩ | ⟨g, cap, rfl, hb, hg, h1, h2⟩
  · exact .inl ⟨rfl, List.eq_nil_of_length_eq_zero h0⟩
  · refine .inr ⟨g, cap, rfl, hb, fun j hj i u hu => ?_⟩
    have hi : i < 16 := by
      have := (List.getElem?_eq_some_iff.1 hu).1
      rwa [rcl_len] at this
    exact own_cell h (j * 16 + i) u (by rw [flat_at rcl 16 rcl_len l j i hj hi]; exact hu)
theorem Tryz.infoRec : (Tryz.prog.info? 59).map (fun i => (i.zero, i.size, i.bytes)) = some (some (.agg (Rc.none.cells Loc.none)), 16, 216) := by kernel_rfl
end Go.Proofs.YtbfafijfhaejmaaGreatDoor
namespace Go.Proofs.YtbfafijfhaejmaaGreatDoor
open Go.ChangeShapes Go.WideShapes Go.ChangeAt Go.RowKit Go.Deep

def encs (l : List Lr) : List UInt8 := (l.map fun z => z.1.enc).flatten
theorem encs_snoc (l : List Lr) (z : Lr) : encs (l ++ [z]) = encs l ++ z.1.enc := by simp [encs]
theorem encs_cons (l : List Lr) (z : Lr) : encs (z :: l) = z.1.enc ++ encs l := by simp [encs]
section
variable {ops : Array Oper} {rest : List Oper} {o : Oper} {a : Act} {w : World} {Q : Exit → Act → World → Prop}
theorem wpList_load_rc (hg : o.guard = none) (x : Operand) (hop : o.op = .load 59 x) (b off : Nat) (hx : a.eval x = .pointer (some ⟨b, off, none⟩)) (z : Lr) (hc : w.rangeAt b off (rcl z))
    (h : wpList Tryz.prog ops Q rest (a.put o.dst (.agg (z.1.cells z.2))) w) : wpList Tryz.prog ops Q (o :: rest) a w :=
  wpList_load_mid hg 59 x hop b off hx (rcl z) _ hc Tryz.underlying59 rfl Tryz.sizeRec h
end
end Go.Proofs.YtbfafijfhaejmaaGreatDoor

namespace Go.Proofs.YtbfafijfhaejmaaGreatDoor
open Go.RowKit

theorem Bx.range {w : World} {b : Nat} {q : Rc} {L : Loc} (h : Bx w b q L) : w.rangeAt b 0 (q.cl L) := by
  intro j v hv
  have hj : j < 16 := (List.getElem?_eq_some_iff.1 hv).1
  rw [Nat.zero_add]
  match j, hj, hv with
  | 0, _, hv => injection hv with hv; subst hv; exact h.c0
  | 1, _, hv => injection hv with hv; subst hv; exact h.c1
  | 2, _, hv => injection hv with hv; subst hv; exact h.c2
  | 3, _, hv => injection hv with hv; subst hv; exact h.c3
  | 4, _, hv => injection hv with hv; subst hv; exact h.c4
  | 5, _, hv => injection hv with hv; subst hv; exact h.c5
  | 6, _, hv => injection hv with hv; subst hv; exact h.c6
  | 7, _, hv => injection hv with hv; subst hv; exact h.c7
  | 8, _, hv => injection hv with hv; subst hv; exact h.c8
  | 9, _, hv => injection hv with hv; subst hv; exact h.c9
  | 10, _, hv => injection hv with hv; subst hv; exact h.c10
  | 11, _, hv => injection hv with hv; subst hv; exact h.c11
  | 12, _, hv => injection hv with hv; subst hv; exact h.c12
  | 13, _, hv => injection hv with hv; subst hv; exact h.c13
  | 14, _, hv => injection hv with hv; subst hv; exact h.c14
  | 15, _, hv => injection hv with hv; subst hv; exact h.c15
/-- A log with a record more. -/
def Lg.app (G : Lg) (e : List UInt8) : Lg := { G with tail := G.tail + e.length, stream := G.stream ++ e, places := G.places ++ [(G.tail : Int)] }
/-- A record at a place. -/
def Rc.at_ (r : Rc) (t : Int) : Rc := { r with lsn := t }
theorem box_at (w : World) (r : Rc) (L : Loc) (t : Int) : Bx ((w.alloc (.cells (r.cells L) 59)).setCell ⟨w.heap.size, 0, none⟩ (.int .i64 t)) w.heap.size (r.at_ t) L := by
  have h := Bx.new w r L
  have k : ∀ (j : Nat) (v : Value), j ≠ 0 → (w.alloc (.cells (r.cells L) 59)).cell? ⟨w.heap.size, j, none⟩ = some v → ((w.alloc (.cells (r.cells L) 59)).setCell ⟨w.heap.size, 0, none⟩ (.int .i64 t)).cell? ⟨w.heap.size, j, none⟩ = some v := fun j v hj hc =>
    (World.cell?_setCell_other _ _ _ _ (by intro e; injection e with _ e; exact hj e.symm)).trans hc
  exact ⟨World.cell?_setCell_same _ _ _ h.c0, k _ _ (by decide) h.c1, k _ _ (by decide) h.c2, k _ _ (by decide) h.c3, k _ _ (by decide) h.c4, k _ _ (by decide) h.c5, k _ _ (by decide) h.c6, k _ _ (by decide) h.c7, k _ _ (by decide) h.c8, k _ _ (by decide) h.c9, k _ _ (by decide) h.c10, k _ _ (by decide) h.c11, k _ _ (by decide) h.c12, k _ _ (by decide) h.c13, k _ _ (by decide) h.c14, k _ _ (by decide) h.c15, by simp⟩
theorem RcAt.at_ {w : World} {r : Rc} {L : Loc} (h : RcAt w r L) (t : Int) : RcAt w (r.at_ t) L := ⟨h.slots, h.more, h.images, h.pages, h.txns, h.f1, h.f2, h.data, h.kind⟩
theorem LogOw.places_ {W W' : World} {l d : Nat} {G : Lg} {base : Nat} {v7 v8 v9 : Value} (h : LogOw W l d G base v7 v8) (z : Int) (ho : Only (fun k => some k = v8.ownBlock) W W') (hp : W'.ownsRow base 3 1 v9 (G.places ++ [z]).length ((G.places ++ [z]).map (Value.int .i64))) (hb : ∀ k, v9.ownBlock = some k → v8.ownBlock = some k ∨ W.heap.size ≤ k) :
    LogOw (W'.setCell ⟨l, 8, none⟩ v9) l d { G with places := G.places ++ [z] } base v7 v9 ∧ Only (fun k => k = l ∨ some k = v8.ownBlock) W (W'.setCell ⟨l, 8, none⟩ v9) := by
  have hl : ¬ (some l = v8.ownBlock) := fun e => h.n2 e.symm
  have h7 : ∀ k, v7.ownBlock = some k → ¬ (some k = v8.ownBlock) := fun k e e2 => h.n3 k e e2.symm
  have kc : ∀ (j : Nat) (v : Value), W.cell? ⟨l, j, none⟩ = some v → W'.cell? ⟨l, j, none⟩ = some v := fun j v hj => (ho.cell (p := ⟨l, j, none⟩) h.lt hl).trans hj
  have k : ∀ (j : Nat) (v : Value), j ≠ 8 → W.cell? ⟨l, j, none⟩ = some v → (W'.setCell ⟨l, 8, none⟩ v9).cell? ⟨l, j, none⟩ = some v := fun j v hj hc =>
    (World.cell?_setCell_other _ _ _ _ (by intro e; injection e with _ e; exact hj e.symm)).trans (kc _ _ hc)
  have o2' : Only (fun i => i = l) W' (W'.setCell ⟨l, 8, none⟩ v9) := Only.setCell (S := fun i => i = l) _ _ _ rfl
  have n2 : v9.ownBlock ≠ some l := fun e => by
    rcases hb l e with e | e
    · exact h.n2 e
    · have := h.lt; omega
  refine ⟨⟨k _ _ (by decide) h.c0, k _ _ (by decide) h.c1, k _ _ (by decide) h.c2, k _ _ (by decide) h.c3, k _ _ (by decide) h.c4, k _ _ (by decide) h.c5, k _ _ (by decide) h.c6, k _ _ (by decide) h.c7, World.cell?_setCell_same _ _ _ (kc _ _ h.c8), fun j => ?_, ?_, (h.row.kept ho h7).kept o2' (fun k e e2 => ?_), own_only hp o2' (fun k e e2 => ?_), h.n1, n2, fun k e e2 => ?_⟩, (ho.mono (T := fun k => k = l ∨ some k = v8.ownBlock) (fun _ _ h => .inr h)).trans o2' (fun _ _ h => .inl h)⟩
  · have := (ho.frozen (p := ⟨l, j, none⟩) h.lt hl).trans (h.fz j)
    simpa using this
  · have := Nat.lt_of_lt_of_le h.lt ho.size
    simpa using this
  · subst e2; exact h.n1 e
  · subst e2; exact n2 e
  · rcases hb k e2 with e3 | e3
    · exact h.n3 k e e3
    · have := h.row.lt k e; omega
theorem LogOw.stream_ {W W' : World} {l d : Nat} {G : Lg} {base : Nat} {v7 v8 v9 : Value} (h : LogOw W l d G base v7 v8) (E : List UInt8) (ho : Only (fun k => some k = v7.ownBlock) W W') (hp : W'.ownsRow base 5 1 v9 (G.stream ++ E).length (cells (G.stream ++ E))) (hb : ∀ k, v9.ownBlock = some k → v7.ownBlock = some k ∨ W.heap.size ≤ k) :
    LogOw (W'.setCell ⟨l, 7, none⟩ v9) l d { G with stream := G.stream ++ E } base v9 v8 ∧ Only (fun k => k = l ∨ some k = v7.ownBlock) W (W'.setCell ⟨l, 7, none⟩ v9) := by
  have hl : ¬ (some l = v7.ownBlock) := fun e => h.n1 e.symm
  have h8 : ∀ k, v8.ownBlock = some k → ¬ (some k = v7.ownBlock) := fun k e e2 => h.n3 k e2.symm e
  have kc : ∀ (j : Nat) (v : Value), W.cell? ⟨l, j, none⟩ = some v → W'.cell? ⟨l, j, none⟩ = some v := fun j v hj => (ho.cell (p := ⟨l, j, none⟩) h.lt hl).trans hj
  have k : ∀ (j : Nat) (v : Value), j ≠ 7 → W.cell? ⟨l, j, none⟩ = some v → (W'.setCell ⟨l, 7, none⟩ v9).cell? ⟨l, j, none⟩ = some v := fun j v hj hc =>
    (World.cell?_setCell_other _ _ _ _ (by intro e; injection e with _ e; exact hj e.symm)).trans (kc _ _ hc)
  have o2' : Only (fun i => i = l) W' (W'.setCell ⟨l, 7, none⟩ v9) := Only.setCell (S := fun i => i = l) _ _ _ rfl
  have n1 : v9.ownBlock ≠ some l := fun e => by
    rcases hb l e with e | e
    · exact h.n1 e
    · have := h.lt; omega
  have hr : Row W' base v9 v9.ownBlock (G.stream ++ E) := ⟨hp, rfl⟩
  refine ⟨⟨k _ _ (by decide) h.c0, k _ _ (by decide) h.c1, k _ _ (by decide) h.c2, k _ _ (by decide) h.c3, k _ _ (by decide) h.c4, k _ _ (by decide) h.c5, k _ _ (by decide) h.c6, World.cell?_setCell_same _ _ _ (kc _ _ h.c7), k _ _ (by decide) h.c8, fun j => ?_, ?_, hr.kept o2' (fun k e e2 => ?_), own_only (own_only h.pl ho h8) o2' (fun k e e2 => ?_), n1, h.n2, fun k e e2 => ?_⟩, (ho.mono (T := fun k => k = l ∨ some k = v7.ownBlock) (fun _ _ h => .inr h)).trans o2' (fun _ _ h => .inl h)⟩
  · have := (ho.frozen (p := ⟨l, j, none⟩) h.lt hl).trans (h.fz j)
    simpa using this
  · have := Nat.lt_of_lt_of_le h.lt ho.size
    simpa using this
  · subst e2; exact n1 e
  · subst e2; exact h.n2 e
  · rcases hb k e with e3 | e3
    · exact h.n3 k e3 e2
    · have := (World.ownsRow.lt h.pl k e2).2; omega
theorem LogOw.tail_ {W : World} {l d : Nat} {G : Lg} {base : Nat} {v7 v8 : Value} (h : LogOw W l d G base v7 v8) (t : Nat) :
    LogOw (W.setCell ⟨l, 4, none⟩ (.int .i64 (t : Int))) l d { G with tail := t } base v7 v8 ∧ Only (fun k => k = l) W (W.setCell ⟨l, 4, none⟩ (.int .i64 (t : Int))) := by
  have k : ∀ (j : Nat) (v : Value), j ≠ 4 → W.cell? ⟨l, j, none⟩ = some v → (W.setCell ⟨l, 4, none⟩ (.int .i64 (t : Int))).cell? ⟨l, j, none⟩ = some v := fun j v hj hc =>
    (World.cell?_setCell_other _ _ _ _ (by intro e; injection e with _ e; exact hj e.symm)).trans hc
  have o2' : Only (fun i => i = l) W (W.setCell ⟨l, 4, none⟩ (.int .i64 (t : Int))) := Only.setCell (S := fun i => i = l) _ _ _ rfl
  refine ⟨⟨k _ _ (by decide) h.c0, k _ _ (by decide) h.c1, k _ _ (by decide) h.c2, k _ _ (by decide) h.c3, World.cell?_setCell_same _ _ _ h.c4, k _ _ (by decide) h.c5, k _ _ (by decide) h.c6, k _ _ (by decide) h.c7, k _ _ (by decide) h.c8, fun j => by simpa using h.fz j, by simpa using h.lt, h.row.kept o2' (fun k e e2 => ?_), own_only h.pl o2' (fun k e e2 => ?_), h.n1, h.n2, h.n3⟩, o2'⟩
  · subst e2; exact h.n1 e
  · subst e2; exact h.n2 e
end Go.Proofs.YtbfafijfhaejmaaGreatDoor

namespace Go.Proofs.YtbfafijfhaejmaaGreatDoor
open Go.RowKit

theorem one_at (W : World) (x : Value) (t : TypeId) : (W.alloc (.cells #[x] t)).cell? ⟨W.heap.size, 0, none⟩ = some x := by simp
theorem own_slice {w : World} {base n : Nat} {e : TypeId} {v : Value} {xs : List Value} (h : w.ownsRow base e 1 v n xs) : ∃ ao ln cp, v = .slice ao ln cp := by
  rcases h.2 with ⟨rfl, _⟩ | ⟨g, cap, cur, rfl, _⟩
  · exact ⟨_, _, _, rfl⟩
  · exact ⟨_, _, _, rfl⟩
set_option maxRecDepth 100000 in
set_option maxHeartbeats 1600000 in
theorem append_ok (w : World) (l d : Nat) (G : Lg) (base : Nat) (v7 v8 : Value) (h : LogOw w l d G base v7 v8) (ok : G.Ok) (hbase : base ≤ w.heap.size) (r : Rc) (L : Loc) (hr : RcAt w r L) (hv : (r.at_ G.tail).valid) (hroom : (r.at_ G.tail).enc.length ≤ G.room) (hpl : G.places.length ≤ 1000000000) :
    Calls Tryz.prog 18 #[.pointer (some ⟨l, 0, none⟩), .agg (r.cells L)] w fun e w' =>
      e = .returned (.tuple #[.int .i64 (G.tail : Int), .int .i64 0]) ∧ ∃ v7' v8', LogOw w' l d (G.app (r.at_ G.tail).enc) base v7' v8' ∧ Only (fun k => k = l ∨ some k = v7.ownBlock ∨ some k = v8.ownBlock) w w' ∧ (∀ k, v7'.ownBlock = some k → v7.ownBlock = some k ∨ w.heap.size ≤ k) ∧ (∀ k, v8'.ownBlock = some k → v8.ownBlock = some k ∨ w.heap.size ≤ k) := by
  obtain ⟨i0, hi, hz0, hz1, hz2⟩ := info_parts Tryz.infoByte
  have hrq : RcAt w (r.at_ (G.tail : Int)) L := hr.at_ _
  have hQ : Calls Tryz.prog 66 #[.agg ((r.at_ (G.tail : Int)).cells L)] (w.alloc (.cells ((r.at_ (G.tail : Int)).cells L) 59)) fun e w' => e = .returned (.tuple #[.string (str (r.at_ (G.tail : Int)).enc), .int .i64 0]) ∧ Only (fun _ => False) w w' ∧ w'.cell? ⟨w.heap.size, 0, none⟩ = some (.int .i64 (G.tail : Int)) :=
    (rencode_any _ _ L (hrq.go (onlyA w _))).mono (fun e w' hx => ⟨hx.ok hv, o2 (onlyA w _) hx.only, ((Bx.new w (r.at_ (G.tail : Int)) L).more hx.only).c0⟩)
  have HQ := hide hQ
  obtain ⟨E, hE⟩ : ∃ E, (r.at_ (G.tail : Int)).enc = E := ⟨_, rfl⟩
  rw [hE] at HQ hroom ⊢
  obtain ⟨N, hN⟩ : ∃ N, str E = N := ⟨_, rfl⟩
  have hNs : N.size = E.length := by rw [← hN, str_size]
  have hNd : N.data.toList = E := by rw [← hN]; show E.toArray.toList = _; simp
  rw [hN] at HQ
  obtain ⟨b, hb⟩ : ∃ b, w.heap.size = b := ⟨_, rfl⟩
  have c4 := h.c4
  have c4' : ∀ o, (w.alloc o).cell? ⟨l, 4, none⟩ = some (.int .i64 (G.tail : Int)) := fun o => (h.more (onlyA w _)).c4
  have HL := hide h
  have hrl : G.room ≤ 4000000 := by unfold Lg.room; have := ok.nb; omega
  obtain ⟨rm, hrm⟩ : ∃ rm, G.room = rm := ⟨_, rfl⟩
  have HRM := hide (fun W (hW : LogOw W l d G base v7 v8) => by
    obtain ⟨B, ao, cp, _, hA, _⟩ := hW.at_
    exact room_any W l d G B ao cp v8 hA ok)
  rw [hrm] at HRM hroom hrl
  have i1 : ¬ (rm : Int) < (N.size : Int) := by omega
  have i2 : (N.size : Int) ≤ 4000000 := by omega
  have i3 : (G.tail : Int) < 1099511627776 := by have := ok.big; omega
  have HI2 : Hid (True → (N.size : Int) ≤ 4000000 ∧ (G.tail : Int) < 1099511627776 ∧ G.stream.length < 1099511627776) := fun _ => ⟨i2, i3, ok.ln⟩
  have HNS := hide hNs
  have HND := hide hNd
  have HPL : Hid (True → G.places.length ≤ 1000000000) := fun _ => hpl
  have HBASE := hide hbase
  have HOK := hide ok
  clear h hr hrq hQ hv hE hN hNs hNd hrm hrl hroom hpl hbase ok i2 i3
  go_enter Tryz.func18, Tryz.ntmps18
  go_wp2_with fail
  refine Calls.mono HQ.out ?_
  rintro e w2 ⟨rfl, ho2, hb2⟩
  have HL2 := hide (HL.out.more ho2)
  have HO2 := hide ho2
  have HB2 := hide hb2
  clear ho2 hb2 c4 c4'
  go_wp2_with fail
  refine (HRM.out _ HL2.out).mono ?_
  rintro e w3 ⟨rfl, ho3⟩
  have HL3 := hide (HL2.out.more ho3)
  have hO3 := o2 HO2.out ho3
  have hb3 : w3.cell? ⟨b, 0, none⟩ = some (.int .i64 (G.tail : Int)) := by
    rw [← hb]
    exact (ho3.cell (p := ⟨w.heap.size, 0, none⟩) (World.block_lt_of_cell? _ _ HB2.out) (fun h => h)).trans HB2.out
  have HO3 := hide hO3
  have d4 := HL3.out.c4
  have d8 := HL3.out.c8
  clear ho3 hO3 HL2 HO2 HB2
  have HB3 : Hid (base ≤ w3.heap.size) := Nat.le_trans HBASE.out HO3.out.size
  have g8 : ∀ o, (w3.drew.alloc o).cell? ⟨l, 8, none⟩ = some v8 := fun o => (HL3.out.more (o2 (Only.drew _ w3) (onlyA _ _))).c8
  have g9 : ∀ o, (w3.alloc o).cell? ⟨l, 8, none⟩ = some v8 := fun o => (HL3.out.more (onlyA _ _)).c8
  go_upto_region 9 with fail
  refine wp_region_noPanic ?_
  refine wp_region_held_drew (S := fun W => W.cell? ⟨l, 4, none⟩ = some (.int .i64 (G.tail : Int))) (by kernel_rfl) (by simpa using d4) (fun hHeld => ?_)
  refine wpAnyH_take (i := 0) (oi := { dst := some 28, op := Op.move (Operand.tmp 0), type := 30, pos := "wal.go:131", after := #[], guard := none }) (v := .pointer (some ⟨l, 0, none⟩)) rfl (by kernel_rfl) (by kernel_rfl) (by kernel_rfl) (fun _ _ _ h => h) (Or.inl ⟨by rfl, fun w' hSw => by clear hSw; go_simp⟩) (by assumption) ?_
  simp only [Act.put, List.setIfInBounds_toArray, List.set_cons_zero, List.set_cons_succ]
  refine wpAnyH_take (i := 1) (oi := { dst := some 29, op := Op.move (Operand.tmp 0), type := 30, pos := "wal.go:131", after := #[], guard := none }) (v := .pointer (some ⟨l, 0, none⟩)) rfl (by kernel_rfl) (by kernel_rfl) (by kernel_rfl) (fun _ _ _ h => h) (Or.inl ⟨by rfl, fun w' hSw => by clear hSw; go_simp⟩) (by assumption) ?_
  simp only [Act.put, List.setIfInBounds_toArray, List.set_cons_zero, List.set_cons_succ]
  refine wpAnyH_take (i := 5) (oi := { dst := some 33, op := Op.move (Operand.tmp 0), type := 30, pos := "wal.go:131", after := #[], guard := none }) (v := .pointer (some ⟨l, 0, none⟩)) rfl (by kernel_rfl) (by kernel_rfl) (by kernel_rfl) (fun _ _ _ h => h) (Or.inl ⟨by rfl, fun w' hSw => by clear hSw; go_simp⟩) (by assumption) ?_
  simp only [Act.put, List.setIfInBounds_toArray, List.set_cons_zero, List.set_cons_succ]
  refine wpAnyH_take (i := 2) (oi := { dst := some 30, op := Op.nilCheck (Operand.tmp 29), type := 0, pos := "wal.go:131", after := #[{ on := 1, ground := Ground.data }], guard := none }) (v := .pointer (some ⟨l, 0, none⟩)) rfl (by kernel_rfl) (by kernel_rfl) (by kernel_rfl) (fun _ _ _ h => h) (Or.inl ⟨by rfl, fun w' hSw => by clear hSw; go_simp⟩) (by assumption) ?_
  simp only [Act.put, List.setIfInBounds_toArray, List.set_cons_zero, List.set_cons_succ]
  refine wpAnyH_take (i := 6) (oi := { dst := some 34, op := Op.nilCheck (Operand.tmp 33), type := 0, pos := "wal.go:131", after := #[{ on := 5, ground := Ground.data }], guard := none }) (v := .pointer (some ⟨l, 0, none⟩)) rfl (by kernel_rfl) (by kernel_rfl) (by kernel_rfl) (fun _ _ _ h => h) (Or.inl ⟨by rfl, fun w' hSw => by clear hSw; go_simp⟩) (by assumption) ?_
  simp only [Act.put, List.setIfInBounds_toArray, List.set_cons_zero, List.set_cons_succ]
  refine wpAnyH_take (i := 3) (oi := { dst := some 31, op := Op.fieldAddr 94 (Operand.tmp 30) 8, type := 0, pos := "wal.go:131", after := #[{ on := 2, ground := Ground.data }], guard := none }) (v := .pointer (some ⟨l, 8, none⟩)) rfl (by kernel_rfl) (by kernel_rfl) (by kernel_rfl) (fun _ _ _ h => h) (Or.inl ⟨by rfl, fun w' hSw => by clear hSw; go_simp⟩) (by assumption) ?_
  simp only [Act.put, List.setIfInBounds_toArray, List.set_cons_zero, List.set_cons_succ]
  refine wpAnyH_take (i := 7) (oi := { dst := some 35, op := Op.fieldAddr 94 (Operand.tmp 34) 4, type := 0, pos := "wal.go:131", after := #[{ on := 6, ground := Ground.data }], guard := none }) (v := .pointer (some ⟨l, 4, none⟩)) rfl (by kernel_rfl) (by kernel_rfl) (by kernel_rfl) (fun _ _ _ h => h) (Or.inl ⟨by rfl, fun w' hSw => by clear hSw; go_simp⟩) (by assumption) ?_
  simp only [Act.put, List.setIfInBounds_toArray, List.set_cons_zero, List.set_cons_succ]
  refine wpAnyH_take (i := 8) (oi := { dst := some 36, op := Op.load 3 (Operand.tmp 35), type := 3, pos := "wal.go:131", after := #[{ on := 7, ground := Ground.data }], guard := none }) (v := .int .i64 (G.tail : Int)) rfl (by kernel_rfl) (by kernel_rfl) (by kernel_rfl) (fun _ _ _ h => h) (yieldsIf_load_cell (by rfl) 3 _ rfl _ rfl (fun W hW => hW) (fun W hc => ld_int hc)) (by assumption) ?_
  simp only [Act.put, List.setIfInBounds_toArray, List.set_cons_zero, List.set_cons_succ]
  refine wpAnyH_ready (rs := [4, 9]) (by kernel_rfl) (by simp) ?_
  refine AllReadyH.cons (o := { dst := some 32, op := Op.load 54 (Operand.tmp 31), type := 54, pos := "wal.go:131", after := #[{ on := 3, ground := Ground.data }], guard := none }) rfl (fun K hK => ?_) (AllReadyH.cons (o := { dst := some 37, op := Op.buildSlice 54 1 #[(0, Operand.tmp 36)], type := 54, pos := "wal.go:131", after := #[{ on := 8, ground := Ground.data }], guard := none }) rfl (fun K hK => ?_) (AllReadyH.nil))
  · go_simp
    refine hK.out _ _ (hHeld) (fun hHeld => ?_)
    clear hK K
    try simp only [Act.put, List.setIfInBounds_toArray, List.set_cons_zero, List.set_cons_succ]
    refine wpAnyH_ready (rs := [9]) (by kernel_rfl) (by simp) ?_
    refine AllReadyH.cons (o := { dst := some 37, op := Op.buildSlice 54 1 #[(0, Operand.tmp 36)], type := 54, pos := "wal.go:131", after := #[{ on := 8, ground := Ground.data }], guard := none }) rfl (fun K hK => ?_) (AllReadyH.nil)
    go_simp
    refine hK.out _ _ ((HL3.out.more (o2 (Only.drew _ w3) (onlyA _ _))).c4) (fun hHeld => ?_)
    clear hK K
    try simp only [Act.put, List.setIfInBounds_toArray, List.set_cons_zero, List.set_cons_succ]
    refine wpAnyH_ready (rs := [10]) (by kernel_rfl) (by simp) ?_
    refine AllReadyH.cons (o := { dst := some 38, op := Op.call { callee := Callee.builtin Builtin.append, args := #[Operand.tmp 32, Operand.tmp 37], argTypes := #[54, 54] }, type := 54, pos := "wal.go:131", after := #[{ on := 4, ground := Ground.data }, { on := 9, ground := Ground.data }], guard := none }) rfl (fun K hK => ?_) (AllReadyH.nil)
    obtain ⟨v9, w4, hap, ow4, on4, bl4⟩ := append_place w3 54 base v8 G.places HL3.out.pl (G.tail : Int) (HPL.out trivial) HB3.out (w3.drew.alloc (.cells #[.int .i64 (G.tail : Int)] 3)) (o2 (Only.drew _ w3) (onlyA _ _)) w3.heap.size (one_at w3.drew _ _)
    obtain ⟨ao9, n9, c9, rfl⟩ := own_slice ow4
    have X4 := hide ((on4.cell (p := ⟨l, 4, none⟩) HL3.out.lt (fun h => HL3.out.n2 h.symm)).trans HL3.out.c4)
    have e8 := (on4.cell (p := ⟨l, 8, none⟩) HL3.out.lt (fun h => HL3.out.n2 h.symm)).trans HL3.out.c8
    have f8 := (on4.frozen (p := ⟨l, 8, none⟩) HL3.out.lt (fun h => HL3.out.n2 h.symm)).trans (HL3.out.fz 8)
    have X4S : Hid (∀ u, (w4.setCell ⟨l, 8, none⟩ u).cell? ⟨l, 4, none⟩ = some (.int .i64 (G.tail : Int))) := fun u => (World.cell?_setCell_other _ _ _ _ (by intro e; injection e with _ e; cases e)).trans X4.out
    have OW4 := hide ow4
    have ON4 := hide on4
    have BL4 := hide bl4
    have HAP := hide hap
    clear ow4 on4 bl4 hap
    rw [if_pos (by rfl)]
    refine Lib.wp_append_run _ (.tmp 32) (.tmp 37) _ _ rfl _ _ rfl rfl _ _ HAP.out ?_
    refine hK.out _ _ (X4.out) (fun hHeld => ?_)
    clear hK K
    try simp only [Act.put, List.setIfInBounds_toArray, List.set_cons_zero, List.set_cons_succ]
    refine wpAnyH_take (i := 11) (oi := { dst := some 39, op := Op.nilCheck (Operand.tmp 28), type := 0, pos := "wal.go:131", after := #[{ on := 0, ground := Ground.data }, { on := 0, ground := Ground.phase }, { on := 1, ground := Ground.phase }, { on := 2, ground := Ground.phase }, { on := 3, ground := Ground.phase }, { on := 4, ground := Ground.phase }, { on := 5, ground := Ground.phase }, { on := 6, ground := Ground.phase }, { on := 7, ground := Ground.phase }, { on := 8, ground := Ground.phase }, { on := 9, ground := Ground.phase }, { on := 10, ground := Ground.phase }], guard := none }) (v := .pointer (some ⟨l, 0, none⟩)) rfl (by kernel_rfl) (by kernel_rfl) (by kernel_rfl) (fun _ _ _ h => h) (Or.inl ⟨by rfl, fun w' hSw => by clear hSw; go_simp⟩) (by assumption) ?_
    simp only [Act.put, List.setIfInBounds_toArray, List.set_cons_zero, List.set_cons_succ]
    refine wpAnyH_take (i := 12) (oi := { dst := some 40, op := Op.fieldAddr 94 (Operand.tmp 39) 8, type := 0, pos := "wal.go:131", after := #[{ on := 11, ground := Ground.data }, { on := 0, ground := Ground.phase }, { on := 1, ground := Ground.phase }, { on := 2, ground := Ground.phase }, { on := 3, ground := Ground.phase }, { on := 4, ground := Ground.phase }, { on := 5, ground := Ground.phase }, { on := 6, ground := Ground.phase }, { on := 7, ground := Ground.phase }, { on := 8, ground := Ground.phase }, { on := 9, ground := Ground.phase }, { on := 10, ground := Ground.phase }], guard := none }) (v := .pointer (some ⟨l, 8, none⟩)) rfl (by kernel_rfl) (by kernel_rfl) (by kernel_rfl) (fun _ _ _ h => h) (Or.inl ⟨by rfl, fun w' hSw => by clear hSw; go_simp⟩) (by assumption) ?_
    simp only [Act.put, List.setIfInBounds_toArray, List.set_cons_zero, List.set_cons_succ]
    refine wpAnyH_ready (rs := [13]) (by kernel_rfl) (by simp) ?_
    refine AllReadyH.cons (o := { dst := none, op := Op.store 54 (Operand.tmp 40) (Operand.tmp 38), type := 0, pos := "wal.go:131", after := #[{ on := 12, ground := Ground.data }, { on := 10, ground := Ground.data }, { on := 10, ground := Ground.chain }, { on := 0, ground := Ground.phase }, { on := 1, ground := Ground.phase }, { on := 2, ground := Ground.phase }, { on := 3, ground := Ground.phase }, { on := 4, ground := Ground.phase }, { on := 5, ground := Ground.phase }, { on := 6, ground := Ground.phase }, { on := 7, ground := Ground.phase }, { on := 8, ground := Ground.phase }, { on := 9, ground := Ground.phase }, { on := 10, ground := Ground.phase }], guard := none }) rfl (fun K hK => ?_) (AllReadyH.nil)
    go_simp
    refine hK.out _ _ (X4S.out _) (fun hHeld => ?_)
    clear hK K
    try simp only [Act.put, List.setIfInBounds_toArray, List.set_cons_zero, List.set_cons_succ]
    refine wpAnyH_done (by kernel_rfl) ?_ _
    refine NoPanic.normal ?_
    obtain ⟨hL5, hO5⟩ := HL3.out.places_ (G.tail : Int) ON4.out OW4.out (fun k e => by
      rcases BL4.out with e2 | e2
      · exact .inl (e2.symm.trans e)
      · right
        rw [e2] at e
        injection e with e
        rw [← e]
        simp)
    clear g8 g9 d8 e8 f8 hHeld
    obtain ⟨w5, hw5⟩ : ∃ W, w4.setCell ⟨l, 8, none⟩ (.slice ao9 n9 c9) = W := ⟨_, rfl⟩
    rw [hw5] at hL5 hO5 ⊢
    have HL5 := hide hL5
    have HO5 := hide hO5
    clear hL5 hO5 hw5
    have hNB : ∀ k, some k = v8.ownBlock → k < w.heap.size := fun k e => (World.ownsRow.lt HL.out.pl k e.symm).2
    have hNA : ∀ k, some k = v7.ownBlock → k < w.heap.size := fun k e => (HL.out.row.lt k e.symm).2
    have hbl : b ≠ l := by have := HL.out.lt; omega
    have hb8 : ¬ some b = v8.ownBlock := fun e => by have := hNB b e; omega
    have hb7 : ¬ some b = v7.ownBlock := fun e => by have := hNA b e; omega
    have hblt := World.block_lt_of_cell? _ _ hb3
    have hb5 := (HO5.out.cell (p := ⟨b, 0, none⟩) hblt (fun e => e.elim hbl hb8)).trans hb3
    obtain ⟨v10, w6, hap2, ow6, gr6, bl6⟩ := append_string (P := Tryz.prog) w5 base 89 9 89 5 i0 Tryz.underlying89 Tryz.underlying9 hi hz0 hz1 hz2 v7 G.stream.length (cells G.stream) HL5.out.row.own N (by have := HI2.out trivial; omega) (Nat.le_trans HB3.out HO5.out.size)
    obtain ⟨ao10, n10, c10, rfl⟩ := own_slice ow6
    have ow7 : w6.ownsRow base 5 1 (.slice ao10 n10 c10) (G.stream ++ E).length (cells (G.stream ++ E)) := by
      have e1 : (G.stream ++ E).length = G.stream.length + N.size := by rw [List.length_append, HNS.out]
      have e2 : cells (G.stream ++ E) = cells G.stream ++ Lib.strCells N := by rw [cells_append, ← HND.out]; rfl
      rw [e1, e2]
      exact ow6
    have on6 : Only (fun k => some k = v7.ownBlock) w5 w6 := Only.grown gr6 (fun k hk => hk.symm)
    have hl7 : ¬ some l = v7.ownBlock := fun e => HL5.out.n1 e.symm
    have e7 := (on6.cell (p := ⟨l, 7, none⟩) HL5.out.lt hl7).trans HL5.out.c7
    have f7 := (on6.frozen (p := ⟨l, 7, none⟩) HL5.out.lt hl7).trans (HL5.out.fz 7)
    obtain ⟨hL7, hO7⟩ := HL5.out.stream_ E on6 ow7 (fun k e => by
      rcases bl6 with e2 | e2
      · exact .inl (e2.symm.trans e)
      · right
        rw [e2] at e
        injection e with e
        exact Nat.le_of_eq e)
    have hb6 := (hO7.cell (p := ⟨b, 0, none⟩) (Nat.lt_of_lt_of_le hblt HO5.out.size) (fun e => e.elim hbl hb7)).trans hb5
    have p7 := HL5.out.c7
    have x4 := (on6.cell (p := ⟨l, 4, none⟩) HL5.out.lt hl7).trans HL5.out.c4
    have xf4 := (on6.frozen (p := ⟨l, 4, none⟩) HL5.out.lt hl7).trans (HL5.out.fz 4)
    have xb := (on6.cell (p := ⟨b, 0, none⟩) (Nat.lt_of_lt_of_le hblt HO5.out.size) hb7).trans hb5
    simp only at x4
    obtain ⟨T, hT⟩ : ∃ T, G.tail + E.length = T := ⟨_, rfl⟩
    have hT1 : (G.tail : Int) + (N.size : Int) = (T : Int) := by have := HNS.out; omega
    have hT2 : (T : Int) < 1099600000000 := by have := HI2.out trivial; omega
    have HT := hide hT
    have HAP2 := hide hap2
    have HL7 := hide hL7
    have HO7 := hide hO7
    have HB6 := hide hb6
    have BL6 := hide bl6
    have HBL := hide hbl
    clear hap2 hL7 hO7 ow6 ow7 gr6 bl6 on6 hNB hNA hb8 hb7 hb5 hb3 hb6 hl7 hblt hbl d4 hT
    try rw [Exit.then]
    go_wp2_with (at_builtin; go_must (refine Lib.wpList_append_run _ rfl (.tmp 45) (.tmp 46) _ _ rfl _ _ rfl rfl _ _ HAP2.out ?_))
    go_ret2
    obtain ⟨hL8, hO8⟩ := HL7.out.tail_ T
    have hg : { ({ ({ G with places := G.places ++ [(G.tail : Int)] } : Lg) with stream := G.stream ++ E } : Lg) with tail := T } = G.app E := by unfold Lg.app; rw [HT.out]
    rw [hg] at hL8
    refine ⟨rfl, _, _, hL8, ?_, fun k e => ?_, fun k e => ?_⟩
    · exact (((HO3.out.mono (T := fun k => k = l ∨ some k = v7.ownBlock ∨ some k = v8.ownBlock) (fun _ _ h => h.elim)).trans HO5.out (fun _ _ h => h.elim .inl (fun h => .inr (.inr h)))).trans HO7.out (fun _ _ h => h.elim .inl (fun h => .inr (.inl h)))).trans hO8 (fun _ _ h => .inl h)
    · rcases BL6.out with e2 | e2
      · exact .inl (e2.symm.trans e)
      · right
        rw [e2] at e
        injection e with e
        have := HO3.out.size
        have := HO5.out.size
        omega
    · rcases BL4.out with e2 | e2
      · exact .inl (e2.symm.trans e)
      · right
        rw [e2] at e
        injection e with e
        have := HO3.out.size
        rw [← e]
        simp
        omega
  · go_simp
    refine hK.out _ _ ((HL3.out.more (o2 (Only.drew _ w3) (onlyA _ _))).c4) (fun hHeld => ?_)
    clear hK K
    try simp only [Act.put, List.setIfInBounds_toArray, List.set_cons_zero, List.set_cons_succ]
    refine wpAnyH_ready (rs := [4]) (by kernel_rfl) (by simp) ?_
    refine AllReadyH.cons (o := { dst := some 32, op := Op.load 54 (Operand.tmp 31), type := 54, pos := "wal.go:131", after := #[{ on := 3, ground := Ground.data }], guard := none }) rfl (fun K hK => ?_) (AllReadyH.nil)
    go_simp
    refine hK.out _ _ (hHeld) (fun hHeld => ?_)
    clear hK K
    try simp only [Act.put, List.setIfInBounds_toArray, List.set_cons_zero, List.set_cons_succ]
    refine wpAnyH_ready (rs := [10]) (by kernel_rfl) (by simp) ?_
    refine AllReadyH.cons (o := { dst := some 38, op := Op.call { callee := Callee.builtin Builtin.append, args := #[Operand.tmp 32, Operand.tmp 37], argTypes := #[54, 54] }, type := 54, pos := "wal.go:131", after := #[{ on := 4, ground := Ground.data }, { on := 9, ground := Ground.data }], guard := none }) rfl (fun K hK => ?_) (AllReadyH.nil)
    obtain ⟨v9, w4, hap, ow4, on4, bl4⟩ := append_place w3 54 base v8 G.places HL3.out.pl (G.tail : Int) (HPL.out trivial) HB3.out (w3.drew.alloc (.cells #[.int .i64 (G.tail : Int)] 3)) (o2 (Only.drew _ w3) (onlyA _ _)) w3.heap.size (one_at w3.drew _ _)
    obtain ⟨ao9, n9, c9, rfl⟩ := own_slice ow4
    have X4 := hide ((on4.cell (p := ⟨l, 4, none⟩) HL3.out.lt (fun h => HL3.out.n2 h.symm)).trans HL3.out.c4)
    have e8 := (on4.cell (p := ⟨l, 8, none⟩) HL3.out.lt (fun h => HL3.out.n2 h.symm)).trans HL3.out.c8
    have f8 := (on4.frozen (p := ⟨l, 8, none⟩) HL3.out.lt (fun h => HL3.out.n2 h.symm)).trans (HL3.out.fz 8)
    have X4S : Hid (∀ u, (w4.setCell ⟨l, 8, none⟩ u).cell? ⟨l, 4, none⟩ = some (.int .i64 (G.tail : Int))) := fun u => (World.cell?_setCell_other _ _ _ _ (by intro e; injection e with _ e; cases e)).trans X4.out
    have OW4 := hide ow4
    have ON4 := hide on4
    have BL4 := hide bl4
    have HAP := hide hap
    clear ow4 on4 bl4 hap
    rw [if_pos (by rfl)]
    refine Lib.wp_append_run _ (.tmp 32) (.tmp 37) _ _ rfl _ _ rfl rfl _ _ HAP.out ?_
    refine hK.out _ _ (X4.out) (fun hHeld => ?_)
    clear hK K
    try simp only [Act.put, List.setIfInBounds_toArray, List.set_cons_zero, List.set_cons_succ]
    refine wpAnyH_take (i := 11) (oi := { dst := some 39, op := Op.nilCheck (Operand.tmp 28), type := 0, pos := "wal.go:131", after := #[{ on := 0, ground := Ground.data }, { on := 0, ground := Ground.phase }, { on := 1, ground := Ground.phase }, { on := 2, ground := Ground.phase }, { on := 3, ground := Ground.phase }, { on := 4, ground := Ground.phase }, { on := 5, ground := Ground.phase }, { on := 6, ground := Ground.phase }, { on := 7, ground := Ground.phase }, { on := 8, ground := Ground.phase }, { on := 9, ground := Ground.phase }, { on := 10, ground := Ground.phase }], guard := none }) (v := .pointer (some ⟨l, 0, none⟩)) rfl (by kernel_rfl) (by kernel_rfl) (by kernel_rfl) (fun _ _ _ h => h) (Or.inl ⟨by rfl, fun w' hSw => by clear hSw; go_simp⟩) (by assumption) ?_
    simp only [Act.put, List.setIfInBounds_toArray, List.set_cons_zero, List.set_cons_succ]
    refine wpAnyH_take (i := 12) (oi := { dst := some 40, op := Op.fieldAddr 94 (Operand.tmp 39) 8, type := 0, pos := "wal.go:131", after := #[{ on := 11, ground := Ground.data }, { on := 0, ground := Ground.phase }, { on := 1, ground := Ground.phase }, { on := 2, ground := Ground.phase }, { on := 3, ground := Ground.phase }, { on := 4, ground := Ground.phase }, { on := 5, ground := Ground.phase }, { on := 6, ground := Ground.phase }, { on := 7, ground := Ground.phase }, { on := 8, ground := Ground.phase }, { on := 9, ground := Ground.phase }, { on := 10, ground := Ground.phase }], guard := none }) (v := .pointer (some ⟨l, 8, none⟩)) rfl (by kernel_rfl) (by kernel_rfl) (by kernel_rfl) (fun _ _ _ h => h) (Or.inl ⟨by rfl, fun w' hSw => by clear hSw; go_simp⟩) (by assumption) ?_
    simp only [Act.put, List.setIfInBounds_toArray, List.set_cons_zero, List.set_cons_succ]
    refine wpAnyH_ready (rs := [13]) (by kernel_rfl) (by simp) ?_
    refine AllReadyH.cons (o := { dst := none, op := Op.store 54 (Operand.tmp 40) (Operand.tmp 38), type := 0, pos := "wal.go:131", after := #[{ on := 12, ground := Ground.data }, { on := 10, ground := Ground.data }, { on := 10, ground := Ground.chain }, { on := 0, ground := Ground.phase }, { on := 1, ground := Ground.phase }, { on := 2, ground := Ground.phase }, { on := 3, ground := Ground.phase }, { on := 4, ground := Ground.phase }, { on := 5, ground := Ground.phase }, { on := 6, ground := Ground.phase }, { on := 7, ground := Ground.phase }, { on := 8, ground := Ground.phase }, { on := 9, ground := Ground.phase }, { on := 10, ground := Ground.phase }], guard := none }) rfl (fun K hK => ?_) (AllReadyH.nil)
    go_simp
    refine hK.out _ _ (X4S.out _) (fun hHeld => ?_)
    clear hK K
    try simp only [Act.put, List.setIfInBounds_toArray, List.set_cons_zero, List.set_cons_succ]
    refine wpAnyH_done (by kernel_rfl) ?_ _
    refine NoPanic.normal ?_
    obtain ⟨hL5, hO5⟩ := HL3.out.places_ (G.tail : Int) ON4.out OW4.out (fun k e => by
      rcases BL4.out with e2 | e2
      · exact .inl (e2.symm.trans e)
      · right
        rw [e2] at e
        injection e with e
        rw [← e]
        simp)
    clear g8 g9 d8 e8 f8 hHeld
    obtain ⟨w5, hw5⟩ : ∃ W, w4.setCell ⟨l, 8, none⟩ (.slice ao9 n9 c9) = W := ⟨_, rfl⟩
    rw [hw5] at hL5 hO5 ⊢
    have HL5 := hide hL5
    have HO5 := hide hO5
    clear hL5 hO5 hw5
    have hNB : ∀ k, some k = v8.ownBlock → k < w.heap.size := fun k e => (World.ownsRow.lt HL.out.pl k e.symm).2
    have hNA : ∀ k, some k = v7.ownBlock → k < w.heap.size := fun k e => (HL.out.row.lt k e.symm).2
    have hbl : b ≠ l := by have := HL.out.lt; omega
    have hb8 : ¬ some b = v8.ownBlock := fun e => by have := hNB b e; omega
    have hb7 : ¬ some b = v7.ownBlock := fun e => by have := hNA b e; omega
    have hblt := World.block_lt_of_cell? _ _ hb3
    have hb5 := (HO5.out.cell (p := ⟨b, 0, none⟩) hblt (fun e => e.elim hbl hb8)).trans hb3
    obtain ⟨v10, w6, hap2, ow6, gr6, bl6⟩ := append_string (P := Tryz.prog) w5 base 89 9 89 5 i0 Tryz.underlying89 Tryz.underlying9 hi hz0 hz1 hz2 v7 G.stream.length (cells G.stream) HL5.out.row.own N (by have := HI2.out trivial; omega) (Nat.le_trans HB3.out HO5.out.size)
    obtain ⟨ao10, n10, c10, rfl⟩ := own_slice ow6
    have ow7 : w6.ownsRow base 5 1 (.slice ao10 n10 c10) (G.stream ++ E).length (cells (G.stream ++ E)) := by
      have e1 : (G.stream ++ E).length = G.stream.length + N.size := by rw [List.length_append, HNS.out]
      have e2 : cells (G.stream ++ E) = cells G.stream ++ Lib.strCells N := by rw [cells_append, ← HND.out]; rfl
      rw [e1, e2]
      exact ow6
    have on6 : Only (fun k => some k = v7.ownBlock) w5 w6 := Only.grown gr6 (fun k hk => hk.symm)
    have hl7 : ¬ some l = v7.ownBlock := fun e => HL5.out.n1 e.symm
    have e7 := (on6.cell (p := ⟨l, 7, none⟩) HL5.out.lt hl7).trans HL5.out.c7
    have f7 := (on6.frozen (p := ⟨l, 7, none⟩) HL5.out.lt hl7).trans (HL5.out.fz 7)
    obtain ⟨hL7, hO7⟩ := HL5.out.stream_ E on6 ow7 (fun k e => by
      rcases bl6 with e2 | e2
      · exact .inl (e2.symm.trans e)
      · right
        rw [e2] at e
        injection e with e
        exact Nat.le_of_eq e)
    have hb6 := (hO7.cell (p := ⟨b, 0, none⟩) (Nat.lt_of_lt_of_le hblt HO5.out.size) (fun e => e.elim hbl hb7)).trans hb5
    have p7 := HL5.out.c7
    have x4 := (on6.cell (p := ⟨l, 4, none⟩) HL5.out.lt hl7).trans HL5.out.c4
    have xf4 := (on6.frozen (p := ⟨l, 4, none⟩) HL5.out.lt hl7).trans (HL5.out.fz 4)
    have xb := (on6.cell (p := ⟨b, 0, none⟩) (Nat.lt_of_lt_of_le hblt HO5.out.size) hb7).trans hb5
    simp only at x4
    obtain ⟨T, hT⟩ : ∃ T, G.tail + E.length = T := ⟨_, rfl⟩
    have hT1 : (G.tail : Int) + (N.size : Int) = (T : Int) := by have := HNS.out; omega
    have hT2 : (T : Int) < 1099600000000 := by have := HI2.out trivial; omega
    have HT := hide hT
    have HAP2 := hide hap2
    have HL7 := hide hL7
    have HO7 := hide hO7
    have HB6 := hide hb6
    have BL6 := hide bl6
    have HBL := hide hbl
    clear hap2 hL7 hO7 ow6 ow7 gr6 bl6 on6 hNB hNA hb8 hb7 hb5 hb3 hb6 hl7 hblt hbl d4 hT
    try rw [Exit.then]
    go_wp2_with (at_builtin; go_must (refine Lib.wpList_append_run _ rfl (.tmp 45) (.tmp 46) _ _ rfl _ _ rfl rfl _ _ HAP2.out ?_))
    go_ret2
    obtain ⟨hL8, hO8⟩ := HL7.out.tail_ T
    have hg : { ({ ({ G with places := G.places ++ [(G.tail : Int)] } : Lg) with stream := G.stream ++ E } : Lg) with tail := T } = G.app E := by unfold Lg.app; rw [HT.out]
    rw [hg] at hL8
    refine ⟨rfl, _, _, hL8, ?_, fun k e => ?_, fun k e => ?_⟩
    · exact (((HO3.out.mono (T := fun k => k = l ∨ some k = v7.ownBlock ∨ some k = v8.ownBlock) (fun _ _ h => h.elim)).trans HO5.out (fun _ _ h => h.elim .inl (fun h => .inr (.inr h)))).trans HO7.out (fun _ _ h => h.elim .inl (fun h => .inr (.inl h)))).trans hO8 (fun _ _ h => .inl h)
    · rcases BL6.out with e2 | e2
      · exact .inl (e2.symm.trans e)
      · right
        rw [e2] at e
        injection e with e
        have := HO3.out.size
        have := HO5.out.size
        omega
    · rcases BL4.out with e2 | e2
      · exact .inl (e2.symm.trans e)
      · right
        rw [e2] at e
        injection e with e
        have := HO3.out.size
        rw [← e]
        simp
        omega
end Go.Proofs.YtbfafijfhaejmaaGreatDoor

namespace Go.Proofs.YtbfafijfhaejmaaGreatDoor
open Go.RowKit

theorem LogOw.res_ {W : World} {l d : Nat} {G : Lg} {base : Nat} {v7 v8 : Value} (h : LogOw W l d G base v7 v8) (t : Nat) :
    LogOw (W.setCell ⟨l, 6, none⟩ (.int .i64 (t : Int))) l d { G with reserved := t } base v7 v8 ∧ Only (fun k => k = l) W (W.setCell ⟨l, 6, none⟩ (.int .i64 (t : Int))) := by
  have k : ∀ (j : Nat) (v : Value), j ≠ 6 → W.cell? ⟨l, j, none⟩ = some v → (W.setCell ⟨l, 6, none⟩ (.int .i64 (t : Int))).cell? ⟨l, j, none⟩ = some v := fun j v hj hc =>
    (World.cell?_setCell_other _ _ _ _ (by intro e; injection e with _ e; exact hj e.symm)).trans hc
  have o2' : Only (fun i => i = l) W (W.setCell ⟨l, 6, none⟩ (.int .i64 (t : Int))) := Only.setCell (S := fun i => i = l) _ _ _ rfl
  refine ⟨⟨k _ _ (by decide) h.c0, k _ _ (by decide) h.c1, k _ _ (by decide) h.c2, k _ _ (by decide) h.c3, k _ _ (by decide) h.c4, k _ _ (by decide) h.c5, World.cell?_setCell_same _ _ _ h.c6, k _ _ (by decide) h.c7, k _ _ (by decide) h.c8, fun j => by simpa using h.fz j, by simpa using h.lt, h.row.kept o2' (fun k e e2 => ?_), own_only h.pl o2' (fun k e e2 => ?_), h.n1, h.n2, h.n3⟩, o2'⟩
  · subst e2; exact h.n1 e
  · subst e2; exact h.n2 e
theorem append_nil (w : World) (v : Value) (r : Rc) (L : Loc) (hv : v = .agg (r.cells L)) : Calls Tryz.prog 18 #[.pointer none, v] w fun e w' => e = .returned (.tuple #[.int .i64 0, .int .i64 2]) ∧ Only (fun _ => False) w w' := by
  subst hv
  go_enter Tryz.func18, Tryz.ntmps18
  go_wp2
  go_ret2
  exact ⟨rfl, onlyA w _⟩
theorem LogOw.room_ {W : World} {l d : Nat} {G : Lg} {base : Nat} {v7 v8 : Value} (h : LogOw W l d G base v7 v8) (ok : G.Ok) : Calls Tryz.prog 67 #[.pointer (some ⟨l, 0, none⟩)] W fun e w' => e = .returned (.int .i64 (G.room : Int)) ∧ Only (fun _ => False) W w' := by
  obtain ⟨B, ao, cp, _, hA, _⟩ := h.at_
  exact room_any W l d G B ao cp v8 hA ok
end Go.Proofs.YtbfafijfhaejmaaGreatDoor

namespace Go.Proofs.YtbfafijfhaejmaaGreatDoor
open Go.RowKit

def encR (l : List Rc) : List UInt8 := (l.map Rc.enc).flatten
theorem encR_snoc (l : List Rc) (r : Rc) : encR (l ++ [r]) = encR l ++ r.enc := by simp [encR]
theorem encR_cons (l : List Rc) (r : Rc) : encR (r :: l) = r.enc ++ encR l := by simp [encR]
theorem encR_app (l k : List Rc) : encR (l ++ k) = encR l ++ encR k := by simp [encR]
/-- The place of the i-th record. -/
def tk (start : Nat) (rs : List Rc) (i : Nat) : Nat := start + (encR (rs.take i)).length
theorem tk_next (start : Nat) (rs : List Rc) (i : Nat) (h : i < rs.length) : tk start rs (i + 1) = tk start rs i + rs[i].enc.length := by
  unfold tk
  rw [List.take_succ_eq_append_getElem h, encR_snoc, List.length_append]
  omega
theorem tk_le (start : Nat) (rs : List Rc) (i j : Nat) (h : i ≤ j) : tk start rs i ≤ tk start rs j := by
  unfold tk
  have e : rs.take j = rs.take i ++ (rs.drop i).take (j - i) := by
    have : rs.take j = (rs.take j).take i ++ (rs.take j).drop i := (List.take_append_drop i _).symm
    rw [this, List.take_take, List.drop_take, show min i j = i by omega]
  rw [e, encR_app, List.length_append]
  omega
def plc (start : Nat) (rs : List Rc) (i : Nat) : List Int := (List.range i).map fun j => (tk start rs j : Int)
theorem plc_next (start : Nat) (rs : List Rc) (i : Nat) : plc start rs (i + 1) = plc start rs i ++ [(tk start rs i : Int)] := by
  unfold plc
  rw [List.range_succ, List.map_append]
  rfl
theorem plc_len (start : Nat) (rs : List Rc) (i : Nat) : (plc start rs i).length = i := by simp [plc]
/-- Records that stand at their places from start on. -/
structure Chn (start : Nat) (rs : List Rc) : Prop where
  each : ∀ i (h : i < rs.length), rs[i].valid ∧ (∀ im ∈ rs[i].images, im.body.lsn < 9223372036854775808) ∧ rs[i].lsn = (tk start rs i : Int)
def Gi (frm n start : Nat) (rs : List Rc) (i : Nat) : Lg := ⟨frm, n, start, tk start rs i, 0, 0, [], plc start rs i⟩
theorem told_drop {told pre : List UInt8} {rs : List Rc} (h : told = pre ++ encR rs) (i : Nat) : told.drop (pre.length + (encR (rs.take i)).length) = encR (rs.drop i) := by
  have e : encR rs = encR (rs.take i) ++ encR (rs.drop i) := by rw [← encR_app, List.take_append_drop]
  rw [h, e, ← List.append_assoc, ← List.length_append, List.drop_left]
structure TkS (w wr : World) (l d : Nat) (G : Lg) (v5 v8 : Value) (done : List Rc) : Prop where
  log : LogOw wr l d G w.heap.size (.slice none 0 0) v8
  recs : ∃ acc : List Lr, Ow wr w.heap.size v5 acc ∧ acc.map (fun z => z.1) = done
  sep : ∀ k, v5.ownBlock = some k → v8.ownBlock ≠ some k
  only : Only (fun k => k = l) w wr
theorem TkS.more {w wr wc : World} {l d : Nat} {G : Lg} {v5 v8 : Value} {done : List Rc} (h : TkS w wr l d G v5 v8 done) (ho : Only (fun _ => False) wr wc) : TkS w wc l d G v5 v8 done := by
  obtain ⟨acc, h1, h2⟩ := h.recs
  exact ⟨h.log.more ho, ⟨acc, h1.more ho, h2⟩, h.sep, h.only.trans ho (fun _ _ h => h.elim)⟩
/-- A record appended to the list. -/
theorem TkS.rec_ {w wr w4 : World} {l d : Nat} {G : Lg} {v5 v8 v' : Value} {done : List Rc} {acc : List Lr} {z : Lr} (h : TkS w wr l d G v5 v8 done) (ha : acc.map (fun z => z.1) = done) (how : Ow w4 w.heap.size v' (acc ++ [z])) (hv5 : Ow wr w.heap.size v5 acc)
    (ho : Only (fun k => some k = v5.ownBlock) wr w4) (hb : v'.ownBlock = v5.ownBlock ∨ ∃ q, wr.heap.size ≤ q ∧ v'.ownBlock = some q) (hl : l < w.heap.size) : TkS w w4 l d G v' v8 (done ++ [z.1]) := by
  have h5 : ∀ k, v5.ownBlock = some k → w.heap.size ≤ k := fun k e => (World.ownsRow.lt hv5 k e).1
  refine ⟨h.log.kept ho (fun e => by have := h5 l e.symm; omega) (fun k e => by cases e) (fun k e e2 => h.sep k e2.symm e), ⟨acc ++ [z], how, by rw [List.map_append, ha]; rfl⟩, fun k e e2 => ?_, h.only.trans ho (fun i hi e => ?_)⟩
  · rcases hb with hb | ⟨q, hq, hb⟩
    · exact h.sep k (hb.symm.trans e) e2
    · rw [hb] at e
      injection e with e
      have := (World.ownsRow.lt h.log.pl k e2).2
      omega
  · have := h5 i e.symm
    omega
theorem TkS.plc_ {w wr w4 : World} {l d : Nat} {G : Lg} {v5 v8 v9 : Value} {done : List Rc} (h : TkS w wr l d G v5 v8 done) (z : Int) (ho : Only (fun k => some k = v8.ownBlock) wr w4) (hp : w4.ownsRow w.heap.size 3 1 v9 (G.places ++ [z]).length ((G.places ++ [z]).map (Value.int .i64))) (hb : ∀ k, v9.ownBlock = some k → v8.ownBlock = some k ∨ wr.heap.size ≤ k) (hl : l < w.heap.size) :
    TkS w (w4.setCell ⟨l, 8, none⟩ v9) l d { G with places := G.places ++ [z] } v5 v9 done := by
  obtain ⟨hL, hO⟩ := h.log.places_ z ho hp hb
  obtain ⟨acc, h1, h2⟩ := h.recs
  have h5 : ∀ k, v5.ownBlock = some k → w.heap.size ≤ k ∧ k < wr.heap.size := fun k e => World.ownsRow.lt h1 k e
  refine ⟨hL, ⟨acc, own_kept h1 hO (fun k e q => ?_), h2⟩, fun k e e2 => ?_, h.only.trans hO (fun i hi q => ?_)⟩
  · rcases q with q | q
    · have := h5 k e; omega
    · exact h.sep k e q.symm
  · rcases hb k e2 with q | q
    · exact h.sep k e q
    · have := h5 k e; omega
  · rcases q with q | q
    · exact q
    · have := (World.ownsRow.lt h.log.pl i q.symm).1
      omega
theorem TkS.tail_ {w wr : World} {l d : Nat} {G : Lg} {v5 v8 : Value} {done : List Rc} (h : TkS w wr l d G v5 v8 done) (t : Nat) (hl : l < w.heap.size) : TkS w (wr.setCell ⟨l, 4, none⟩ (.int .i64 (t : Int))) l d { G with tail := t } v5 v8 done := by
  obtain ⟨hL, hO⟩ := h.log.tail_ t
  obtain ⟨acc, h1, h2⟩ := h.recs
  exact ⟨hL, ⟨acc, own_kept h1 hO (fun k e q => by have := (World.ownsRow.lt h1 k e).1; omega), h2⟩, h.sep, h.only.trans hO (fun _ _ e => e)⟩
theorem bytes_bys (w : World) (s : ByteArray) (hs : s.size ≤ 2000000) : ∃ (W1 : World) (cap : Nat), (convert 9 89 (.string s)).run Tryz.prog w = .ok (.slice (some ⟨w.heap.size, 0, none⟩) s.size cap) W1 ∧ Bys W1 w.heap.size (some ⟨w.heap.size, 0, none⟩) (bl s) ∧ Only (fun _ => False) w W1 ∧ s.size ≤ cap ∧ cap ≤ maxLen := by
  refine ⟨_, _, run_bytes_of_string (P := Tryz.prog) w 9 89 5 s Tryz.underlying9 Tryz.underlying89 Tryz.underlying5, ⟨fun _ => ⟨0, rfl, ?_⟩, fun _ => by simp⟩, (Only.drew _ w).trans (Only.alloc _ _ _) (fun _ _ h => h) (T := fun _ => False), grownCap_ge w s.size 0 5, grownCap_le_maxLen w s.size 0 5 (by unfold maxLen; omega)⟩
  intro j hj
  rw [bl_len] at hj
  generalize grownCap w s.size 0 5 = cap
  have hb : (w.drew.alloc (.cells (bytesRow s cap) 5 ((bytesRow s cap).size, (bytesRow s cap).size + 1))).heap[w.heap.size]? = some (.cells (bytesRow s cap) 5 ((bytesRow s cap).size, (bytesRow s cap).size + 1)) := heap_alloc_new w.drew _
  rw [Nat.zero_add, cell_of_row _ w.heap.size j (bytesRow s cap) 5 _ hb]
  unfold bytesRow
  rw [Array.getElem?_append_left (by simpa using hj)]
  have hj' : j < s.data.size := hj
  simp [Array.getElem?_map, Array.getElem?_eq_getElem hj']
/-- A log whose stream and whose flushed place are stored. -/
theorem LogOw.fin {W : World} {l d frm n start T base B cp : Nat} {places : List Int} {v8 : Value} {s : List UInt8} (h : LogOw W l d ⟨frm, n, start, T, 0, 0, [], places⟩ base (.slice none 0 0) v8) (hb : Bys W B (some ⟨B, 0, none⟩) s) (hB : B ≠ l) (hc : s.length ≤ cp) (hm : cp ≤ maxLen) :
    LogAt ((W.setCell ⟨l, 7, none⟩ (.slice (some ⟨B, 0, none⟩) s.length cp)).setCell ⟨l, 5, none⟩ (.int .i64 (T : Int))) l d ⟨frm, n, start, T, T, 0, s, places⟩ B (some ⟨B, 0, none⟩) cp v8 ∧ Only (fun k => k = l) W ((W.setCell ⟨l, 7, none⟩ (.slice (some ⟨B, 0, none⟩) s.length cp)).setCell ⟨l, 5, none⟩ (.int .i64 (T : Int))) := by
  have o1 : Only (fun k => k = l) W (W.setCell ⟨l, 7, none⟩ (.slice (some ⟨B, 0, none⟩) s.length cp)) := Only.setCell (S := fun i => i = l) _ _ _ rfl
  have o3 : Only (fun k => k = l) (W.setCell ⟨l, 7, none⟩ (.slice (some ⟨B, 0, none⟩) s.length cp)) ((W.setCell ⟨l, 7, none⟩ (.slice (some ⟨B, 0, none⟩) s.length cp)).setCell ⟨l, 5, none⟩ (.int .i64 (T : Int))) := Only.setCell (S := fun i => i = l) _ _ _ rfl
  have k1 : ∀ (W : World) (i j : Nat) (v x : Value), i ≠ j → W.cell? ⟨l, j, none⟩ = some x → (W.setCell ⟨l, i, none⟩ v).cell? ⟨l, j, none⟩ = some x := fun W i j v x hij hx => (World.cell?_setCell_other _ _ _ _ (by intro e; injection e with _ e; exact hij e)).trans hx
  have k : ∀ (j : Nat) (x : Value), 5 ≠ j → 7 ≠ j → W.cell? ⟨l, j, none⟩ = some x → ((W.setCell ⟨l, 7, none⟩ (.slice (some ⟨B, 0, none⟩) s.length cp)).setCell ⟨l, 5, none⟩ (.int .i64 (T : Int))).cell? ⟨l, j, none⟩ = some x := fun j x h5 h7 hx => k1 _ 5 j _ _ h5 (k1 _ 7 j _ _ h7 hx)
  have ho := o1.trans o3 (fun _ _ e => e)
  refine ⟨⟨k 0 _ (by decide) (by decide) h.c0, k 1 _ (by decide) (by decide) h.c1, k 2 _ (by decide) (by decide) h.c2, k 3 _ (by decide) (by decide) h.c3, k 4 _ (by decide) (by decide) h.c4, World.cell?_setCell_same _ _ _ (k1 _ 7 5 _ _ (by decide) h.c5), k 6 _ (by decide) (by decide) h.c6, k1 _ 5 7 _ _ (by decide) (World.cell?_setCell_same _ _ _ h.c7), k 8 _ (by decide) (by decide) h.c8, fun j => by simpa using h.fz j, by simpa using h.lt, hb.kept ho (fun _ => hB), (fun e => by cases e), (fun a e => by injection e with e; rw [← e]), hc, hm⟩, ho⟩
theorem extract_all (s : ByteArray) (n : Nat) (h : n = s.size) : s.extract 0 n = s := by
  subst h
  rw [ba_eq (s.extract 0 s.size) _ (Lib.extract_to_end s 0)]
  exact str_bl s
end Go.Proofs.YtbfafijfhaejmaaGreatDoor

namespace Go.Proofs.YtbfafijfhaejmaaGreatDoor
open Go.RowKit

end Go.Proofs.YtbfafijfhaejmaaGreatDoor

namespace Go.Proofs.YtbfafijfhaejmaaGreatDoor
open Go.RowKit

theorem bwrite (B b : Nat) (bs : List Value) (s : ByteArray) (w : World) (h : Lib.IsBuilder 146 5 B b bs w) (hlen : bs.length + s.size ≤ 140737488355328) (hBw : B ≤ w.heap.size) :
    Calls Tryz.prog 93 #[.pointer (some ⟨b, 0, none⟩), .string s] w fun e w' => e = .returned (.tuple #[.int .i64 s.size, .nilIface]) ∧ (Lib.BuilderAt 146 5 B b (.pointer (some ⟨b, 0, none⟩)) (bs ++ Lib.strCells s) w' ∧ Below B w w') :=
  Any.Builder_WriteString (P := Tryz.prog) (ρ := Tryz.lays105_ren) { Tryz.lays105 with } Tryz.Builder_Extra_105 B b bs s w h hlen hBw
theorem secL_len (ring : List UInt8) (n k : Nat) (hr : ring.length = n * 64) (hn : 0 < n) : (secL ring n k).length = 64 := by
  unfold secL
  have := Nat.mod_lt k hn
  rw [List.length_take, List.length_drop, hr]
  omega
end Go.Proofs.YtbfafijfhaejmaaGreatDoor

namespace Go.Proofs.YtbfafijfhaejmaaGreatDoor
open Go.RowKit

end Go.Proofs.YtbfafijfhaejmaaGreatDoor

namespace Go.Proofs.YtbfafijfhaejmaaGreatDoor
open Go.RowKit

theorem log_raw (w : World) (d frm n start base : Nat) : LogOw (w.alloc (.cells #[.pointer (some ⟨d, 0, none⟩), .int .i64 (frm : Int), .int .i64 (n : Int), .int .i64 (start : Int), .int .i64 0, .int .i64 0, .int .i64 0, .slice none 0 0, .slice none 0 0] 94)) w.heap.size d ⟨frm, n, start, 0, 0, 0, [], []⟩ base (.slice none 0 0) (.slice none 0 0) := by
  refine ⟨by simp, by simp, by simp, by simp, by simp, by simp, by simp, by simp, by simp, fun j => by simp, by simp, ⟨World.ownsRow_nil _ _ _ _, rfl⟩, World.ownsRow_nil _ _ _ _, (by simp [Value.ownBlock]), (by simp [Value.ownBlock]), (fun k e => by simp [Value.ownBlock] at e)⟩
/-- The log that Open finds. -/
def Lg.found (frm n start : Nat) (pre : List UInt8) (rs : List Rc) : Lg := ⟨frm, n, start, tk start rs rs.length, tk start rs rs.length, 0, pre ++ encR rs, plc start rs rs.length⟩
end Go.Proofs.YtbfafijfhaejmaaGreatDoor
