/- What Append does where the record is refused. -/
import Derived.Test.YtebijheonkagfaaGreatDoorKRf
import Derived.Test.YtebijheonkagfaaGreatDoorKB
import Derived.Deep.RegionHeld3
import Derived.Laws.IdiomStrings
import Derived.Test.YtebijheonkagfaaGreatDoorKWShelf
import Derived.BigQuiet
import Derived.Deep.Draws
namespace Go.Proofs.YtebijheonkagfaaGreatDoor
open Go.RowKit
theorem range_go {S : Nat → Prop} {w w' : World} {b o : Nat} {cs : List Value} (h : w.rangeAt b o cs) (ho : Only S w w') (hS : ¬ S b) : w'.rangeAt b o cs := fun j v hv => by
  have h1 := h j v hv
  exact (ho.cell (p := ⟨b, o + j, none⟩) (World.block_lt_of_cell? w _ h1) hS).trans h1
end Go.Proofs.YtebijheonkagfaaGreatDoor
namespace Go.Proofs.YtebijheonkagfaaGreatDoor
open Go.ChangeShapes Go.WideShapes Go.ChangeAt Go.RowKit Go.Deep
section
variable {ops : Array Oper} {rest : List Oper} {o : Oper} {a : Act} {w : World} {Q : Exit → Act → World → Prop}
end
end Go.Proofs.YtebijheonkagfaaGreatDoor
namespace Go.Proofs.YtebijheonkagfaaGreatDoor
open Go.RowKit
def Lg.app (G : Lg) (e : List UInt8) : Lg := { G with tail := G.tail + e.length, stream := G.stream ++ e, places := G.places ++ [(G.tail : Int)] }
def Rc.at_ (r : Rc) (t : Int) : Rc := { r with lsn := t }
theorem RcAt.at_ {w : World} {r : Rc} {L : Loc} (h : RcAt w r L) (t : Int) : RcAt w (r.at_ t) L := ⟨h.slots, h.more, h.images, h.pages, h.txns, h.f1, h.f2, h.data, h.kind⟩
theorem LogOw.places_ {W W' : World} {l d : Nat} {G : Lg} {base : Nat} {v7 v8 v9 : Value} (h : LogOw W l d G base v7 v8) (z : Int) (ho : Only (fun k => some k = v8.ownBlock) W W') (hp : W'.ownsRow base 3 1 v9 (G.places ++ [z]).length ((G.places ++ [z]).map (Value.int .i64))) (hb : ∀ k, v9.ownBlock = some k → v8.ownBlock = some k ∨ W.heap.size ≤ k) :
    LogOw (W'.setCell ⟨l, 8, none⟩ v9) l d { G with places := G.places ++ [z] } base v7 v9 ∧ Only (fun k => k = l ∨ some k = v8.ownBlock) W (W'.setCell ⟨l, 8, none⟩ v9) := by
  have hl : ¬ (some l = v8.ownBlock) := fun e => h.n2 e.symm
  have h7 : ∀ k, v7.ownBlock = some k → ¬ (some k = v8.ownBlock) := fun k e e2 => h.n3 k e e2.symm
  have kc : ∀ (j : Nat) (v : Value), W.cell? ⟨l, j, none⟩ = some v → W'.cell? ⟨l, j, none⟩ = some v := fun j v hj => (ho.cell (p := ⟨l, j, none⟩) h.lt hl).trans hj
  have k : ∀ (j : Nat) (v : Value), j ≠ 8 → W.cell? ⟨l, j, none⟩ = some v → (W'.setCell ⟨l, 8, none⟩ v9).cell? ⟨l, j, none⟩ = some v := fun j v hj hc =>
    (World.cell?_setCell_other _ _ _ _ (by intro e; injection e with _ e; exact hj e.symm)).trans (kc _ _ hc)
  have o2' : Only (fun i => i = l) W' (W'.setCell ⟨l, 8, none⟩ v9) := Only.setCell (S := fun i => i = l) _ _ _ rfl
  have n2 : v9.ownBlock ≠ some l := fun e => by
    rcases hb l e with e | e
    · exact h.n2 e
    · have := h.lt; omega
  refine ⟨⟨k _ _ (by decide) h.c0, k _ _ (by decide) h.c1, k _ _ (by decide) h.c2, k _ _ (by decide) h.c3, k _ _ (by decide) h.c4, k _ _ (by decide) h.c5, k _ _ (by decide) h.c6, k _ _ (by decide) h.c7, World.cell?_setCell_same _ _ _ (kc _ _ h.c8), fun j => ?_, ?_, (h.row.kept ho h7).kept o2' (fun k e e2 => ?_), own_only hp o2' (fun k e e2 => ?_), h.n1, n2, fun k e e2 => ?_⟩, (ho.mono (T := fun k => k = l ∨ some k = v8.ownBlock) (fun _ _ h => .inr h)).trans o2' (fun _ _ h => .inl h)⟩
  · have := (ho.frozen (p := ⟨l, j, none⟩) h.lt hl).trans (h.fz j)
    simpa using this
  · have := Nat.lt_of_lt_of_le h.lt ho.size
    simpa using this
  · subst e2; exact h.n1 e
  · subst e2; exact n2 e
  · rcases hb k e2 with e3 | e3
    · exact h.n3 k e e3
    · have := h.row.lt k e; omega
theorem LogOw.stream_ {W W' : World} {l d : Nat} {G : Lg} {base : Nat} {v7 v8 v9 : Value} (h : LogOw W l d G base v7 v8) (E : List UInt8) (ho : Only (fun k => some k = v7.ownBlock) W W') (hp : W'.ownsRow base 5 1 v9 (G.stream ++ E).length (cells (G.stream ++ E))) (hb : ∀ k, v9.ownBlock = some k → v7.ownBlock = some k ∨ W.heap.size ≤ k) :
    LogOw (W'.setCell ⟨l, 7, none⟩ v9) l d { G with stream := G.stream ++ E } base v9 v8 ∧ Only (fun k => k = l ∨ some k = v7.ownBlock) W (W'.setCell ⟨l, 7, none⟩ v9) := by
  have hl : ¬ (some l = v7.ownBlock) := fun e => h.n1 e.symm
  have h8 : ∀ k, v8.ownBlock = some k → ¬ (some k = v7.ownBlock) := fun k e e2 => h.n3 k e2.symm e
  have kc : ∀ (j : Nat) (v : Value), W.cell? ⟨l, j, none⟩ = some v → W'.cell? ⟨l, j, none⟩ = some v := fun j v hj => (ho.cell (p := ⟨l, j, none⟩) h.lt hl).trans hj
  have k : ∀ (j : Nat) (v : Value), j ≠ 7 → W.cell? ⟨l, j, none⟩ = some v → (W'.setCell ⟨l, 7, none⟩ v9).cell? ⟨l, j, none⟩ = some v := fun j v hj hc =>
    (World.cell?_setCell_other _ _ _ _ (by intro e; injection e with _ e; exact hj e.symm)).trans (kc _ _ hc)
  have o2' : Only (fun i => i = l) W' (W'.setCell ⟨l, 7, none⟩ v9) := Only.setCell (S := fun i => i = l) _ _ _ rfl
  have n1 : v9.ownBlock ≠ some l := fun e => by
    rcases hb l e with e | e
    · exact h.n1 e
    · have := h.lt; omega
  have hr : Row W' base v9 v9.ownBlock (G.stream ++ E) := ⟨hp, rfl⟩; refine ⟨⟨k _ _ (by decide) h.c0, k _ _ (by decide) h.c1, k _ _ (by decide) h.c2, k _ _ (by decide) h.c3, k _ _ (by decide) h.c4, k _ _ (by decide) h.c5, k _ _ (by decide) h.c6, World.cell?_setCell_same _ _ _ (kc _ _ h.c7), k _ _ (by decide) h.c8, fun j => ?_, ?_, hr.kept o2' (fun k e e2 => ?_), own_only (own_only h.pl ho h8) o2' (fun k e e2 => ?_), n1, h.n2, fun k e e2 => ?_⟩, (ho.mono (T := fun k => k = l ∨ some k = v7.ownBlock) (fun _ _ h => .inr h)).trans o2' (fun _ _ h => .inl h)⟩
  · have := (ho.frozen (p := ⟨l, j, none⟩) h.lt hl).trans (h.fz j)
    simpa using this
  · have := Nat.lt_of_lt_of_le h.lt ho.size
    simpa using this
  · subst e2; exact n1 e
  · subst e2; exact h.n2 e
  · rcases hb k e with e3 | e3
    · exact h.n3 k e3 e2
    · have := (World.ownsRow.lt h.pl k e2).2; omega
theorem LogOw.tail_ {W : World} {l d : Nat} {G : Lg} {base : Nat} {v7 v8 : Value} (h : LogOw W l d G base v7 v8) (t : Nat) :
    LogOw (W.setCell ⟨l, 4, none⟩ (.int .i64 (t : Int))) l d { G with tail := t } base v7 v8 ∧ Only (fun k => k = l) W (W.setCell ⟨l, 4, none⟩ (.int .i64 (t : Int))) := by
  have k : ∀ (j : Nat) (v : Value), j ≠ 4 → W.cell? ⟨l, j, none⟩ = some v → (W.setCell ⟨l, 4, none⟩ (.int .i64 (t : Int))).cell? ⟨l, j, none⟩ = some v := fun j v hj hc =>
    (World.cell?_setCell_other _ _ _ _ (by intro e; injection e with _ e; exact hj e.symm)).trans hc
  have o2' : Only (fun i => i = l) W (W.setCell ⟨l, 4, none⟩ (.int .i64 (t : Int))) := Only.setCell (S := fun i => i = l) _ _ _ rfl; refine ⟨⟨k _ _ (by decide) h.c0, k _ _ (by decide) h.c1, k _ _ (by decide) h.c2, k _ _ (by decide) h.c3, World.cell?_setCell_same _ _ _ h.c4, k _ _ (by decide) h.c5, k _ _ (by decide) h.c6, k _ _ (by decide) h.c7, k _ _ (by decide) h.c8, fun j => by simpa using h.fz j, by simpa using h.lt, h.row.kept o2' (fun k e e2 => ?_), own_only h.pl o2' (fun k e e2 => ?_), h.n1, h.n2, h.n3⟩, o2'⟩
  · subst e2; exact h.n1 e
  · subst e2; exact h.n2 e
theorem one_at (W : World) (x : Value) (t : TypeId) : (W.alloc (.cells #[x] t)).cell? ⟨W.heap.size, 0, none⟩ = some x := by simp
theorem own_slice {w : World} {base n : Nat} {e : TypeId} {v : Value} {xs : List Value} (h : w.ownsRow base e 1 v n xs) : ∃ ao ln cp, v = .slice ao ln cp := by
  rcases h.2 with ⟨rfl, _⟩ | ⟨g, cap, cur, rfl, _⟩
  · exact ⟨_, _, _, rfl⟩
  · exact ⟨_, _, _, rfl⟩
set_option maxRecDepth 100000 in
set_option maxHeartbeats 1600000 in
theorem append_ok (w : World) (l d : Nat) (G : Lg) (base : Nat) (v7 v8 : Value) (h : LogOw w l d G base v7 v8) (ok : G.Ok) (hbase : base ≤ w.heap.size) (r : Rc) (L : Loc) (hr : RcAt w r L) (hv : (r.at_ G.tail).valid) (hroom : (r.at_ G.tail).enc.length ≤ G.room) (hpl : G.places.length ≤ 1000000000) :
    Calls Tryz.prog 14 #[.pointer (some ⟨l, 0, none⟩), .agg (r.cells L)] w fun e w' =>
      e = .returned (.tuple #[.int .i64 (G.tail : Int), .int .i64 0]) ∧ ∃ v7' v8', LogOw w' l d (G.app (r.at_ G.tail).enc) base v7' v8' ∧ Only (fun k => k = l ∨ some k = v7.ownBlock ∨ some k = v8.ownBlock) w w' ∧ (∀ k, v7'.ownBlock = some k → v7.ownBlock = some k ∨ w.heap.size ≤ k) ∧ (∀ k, v8'.ownBlock = some k → v8.ownBlock = some k ∨ w.heap.size ≤ k) := by
  obtain ⟨i0, hi, hz0, hz1, hz2⟩ := info_parts Tryz.infoByte; have hrq : RcAt w (r.at_ (G.tail : Int)) L := hr.at_ _
  have hQ : Calls Tryz.prog 59 #[.agg ((r.at_ (G.tail : Int)).cells L)] (w.alloc (.cells ((r.at_ (G.tail : Int)).cells L) 59)) fun e w' => e = .returned (.tuple #[.string (str (r.at_ (G.tail : Int)).enc), .int .i64 0]) ∧ Only (fun _ => False) w w' ∧ w'.cell? ⟨w.heap.size, 0, none⟩ = some (.int .i64 (G.tail : Int)) :=
    (rencode_any _ _ L (hrq.go (onlyA w _))).mono (fun e w' hx => ⟨hx.ok hv, o2 (onlyA w _) hx.only, ((Bx.new w (r.at_ (G.tail : Int)) L).more hx.only).c0⟩)
  have HQ := hide hQ; obtain ⟨E, hE⟩ : ∃ E, (r.at_ (G.tail : Int)).enc = E := ⟨_, rfl⟩; rw [hE] at HQ hroom ⊢; obtain ⟨N, hN⟩ : ∃ N, str E = N := ⟨_, rfl⟩
  have hNs : N.size = E.length := by rw [← hN, str_size]
  have hNd : N.data.toList = E := by rw [← hN]; show E.toArray.toList = _; simp
  rw [hN] at HQ; obtain ⟨b, hb⟩ : ∃ b, w.heap.size = b := ⟨_, rfl⟩; have c4 := h.c4
  have c4' : ∀ o, (w.alloc o).cell? ⟨l, 4, none⟩ = some (.int .i64 (G.tail : Int)) := fun o => (h.more (onlyA w _)).c4
  have HL := hide h
  have hrl : G.room ≤ 4000000 := by unfold Lg.room; have := ok.nb; omega
  obtain ⟨rm, hrm⟩ : ∃ rm, G.room = rm := ⟨_, rfl⟩
  have HRM := hide (fun W (hW : LogOw W l d G base v7 v8) => by
    obtain ⟨B, ao, cp, _, hA, _⟩ := hW.at_
    exact room_any W l d G B ao cp v8 hA ok)
  rw [hrm] at HRM hroom hrl
  have i1 : ¬ (rm : Int) < (N.size : Int) := by omega
  have i2 : (N.size : Int) ≤ 4000000 := by omega
  have i3 : (G.tail : Int) < 1099511627776 := by have := ok.big; omega
  have HI2 : Hid (True → (N.size : Int) ≤ 4000000 ∧ (G.tail : Int) < 1099511627776 ∧ G.stream.length < 1099511627776) := fun _ => ⟨i2, i3, ok.ln⟩
  have HNS := hide hNs; have HND := hide hNd
  have HPL : Hid (True → G.places.length ≤ 1000000000) := fun _ => hpl
  have HBASE := hide hbase; have HOK := hide ok; clear h hr hrq hQ hv hE hN hNs hNd hrm hrl hroom hpl hbase ok i2 i3
  go_enter Tryz.func14, Tryz.ntmps14
  go_wp2_with fail
  refine Calls.mono HQ.out ?_; rintro e w2 ⟨rfl, ho2, hb2⟩; have HL2 := hide (HL.out.more ho2); have HO2 := hide ho2; have HB2 := hide hb2; clear ho2 hb2 c4 c4'
  go_wp2_with fail
  refine (HRM.out _ HL2.out).mono ?_; rintro e w3 ⟨rfl, ho3⟩; have HL3 := hide (HL2.out.more ho3); have hO3 := o2 HO2.out ho3
  have hb3 : w3.cell? ⟨b, 0, none⟩ = some (.int .i64 (G.tail : Int)) := by
    rw [← hb]
    exact (ho3.cell (p := ⟨w.heap.size, 0, none⟩) (World.block_lt_of_cell? _ _ HB2.out) (fun h => h)).trans HB2.out
  have HO3 := hide hO3; have d4 := HL3.out.c4; have d8 := HL3.out.c8; clear ho3 hO3 HL2 HO2 HB2; have HB3 : Hid (base ≤ w3.heap.size) := Nat.le_trans HBASE.out HO3.out.size
  have g8 : ∀ o, (w3.drew.alloc o).cell? ⟨l, 8, none⟩ = some v8 := fun o => (HL3.out.more (o2 (Only.drew _ w3) (onlyA _ _))).c8
  have g9 : ∀ o, (w3.alloc o).cell? ⟨l, 8, none⟩ = some v8 := fun o => (HL3.out.more (onlyA _ _)).c8
  go_upto_region 9 with fail
  refine wp_region_noPanic ?_; refine wp_region_held_drew (S := fun W => W.cell? ⟨l, 4, none⟩ = some (.int .i64 (G.tail : Int))) (by kernel_rfl) (by simpa using d4) (fun hHeld => ?_); refine tkQ (i := 0) (oi := { dst := some 28, op := Op.move (Operand.tmp 0), type := 30, pos := "wal.go:131", after := #[], guard := none }) (v := .pointer (some ⟨l, 0, none⟩)) rfl (by kernel_rfl) (Or.inl ⟨by rfl, fun w' hSw => by clear hSw; go_simp⟩) (by assumption) ?_; simp only [Act.put, lsA, lsB, lsC]; refine tkQ (i := 1) (oi := { dst := some 29, op := Op.move (Operand.tmp 0), type := 30, pos := "wal.go:131", after := #[], guard := none }) (v := .pointer (some ⟨l, 0, none⟩)) rfl (by kernel_rfl) (Or.inl ⟨by rfl, fun w' hSw => by clear hSw; go_simp⟩) (by assumption) ?_; simp only [Act.put, lsA, lsB, lsC]; refine tkQ (i := 5) (oi := { dst := some 33, op := Op.move (Operand.tmp 0), type := 30, pos := "wal.go:131", after := #[], guard := none }) (v := .pointer (some ⟨l, 0, none⟩)) rfl (by kernel_rfl) (Or.inl ⟨by rfl, fun w' hSw => by clear hSw; go_simp⟩) (by assumption) ?_; simp only [Act.put, lsA, lsB, lsC]; refine tkQ (i := 2) (oi := { dst := some 30, op := Op.nilCheck (Operand.tmp 29), type := 0, pos := "wal.go:131", after := #[{ on := 1, ground := Ground.data }], guard := none }) (v := .pointer (some ⟨l, 0, none⟩)) rfl (by kernel_rfl) (Or.inl ⟨by rfl, fun w' hSw => by clear hSw; go_simp⟩) (by assumption) ?_; simp only [Act.put, lsA, lsB, lsC]; refine tkQ (i := 6) (oi := { dst := some 34, op := Op.nilCheck (Operand.tmp 33), type := 0, pos := "wal.go:131", after := #[{ on := 5, ground := Ground.data }], guard := none }) (v := .pointer (some ⟨l, 0, none⟩)) rfl (by kernel_rfl) (Or.inl ⟨by rfl, fun w' hSw => by clear hSw; go_simp⟩) (by assumption) ?_
  simp only [Act.put, lsA, lsB, lsC]; refine tkQ (i := 3) (oi := { dst := some 31, op := Op.fieldAddr 85 (Operand.tmp 30) 8, type := 0, pos := "wal.go:131", after := #[{ on := 2, ground := Ground.data }], guard := none }) (v := .pointer (some ⟨l, 8, none⟩)) rfl (by kernel_rfl) (Or.inl ⟨by rfl, fun w' hSw => by clear hSw; go_simp⟩) (by assumption) ?_; simp only [Act.put, lsA, lsB, lsC]; refine tkQ (i := 7) (oi := { dst := some 35, op := Op.fieldAddr 85 (Operand.tmp 34) 4, type := 0, pos := "wal.go:131", after := #[{ on := 6, ground := Ground.data }], guard := none }) (v := .pointer (some ⟨l, 4, none⟩)) rfl (by kernel_rfl) (Or.inl ⟨by rfl, fun w' hSw => by clear hSw; go_simp⟩) (by assumption) ?_; simp only [Act.put, lsA, lsB, lsC]; refine tkQ (i := 8) (oi := { dst := some 36, op := Op.load 3 (Operand.tmp 35), type := 3, pos := "wal.go:131", after := #[{ on := 7, ground := Ground.data }], guard := none }) (v := .int .i64 (G.tail : Int)) rfl (by kernel_rfl) (yieldsIf_load_cell (by rfl) 3 _ rfl _ rfl (fun W hW => hW) (fun W hc => ld_int hc)) (by assumption) ?_; simp only [Act.put, lsA, lsB, lsC]; refine wpAnyH_ready (rs := [4, 9]) (by kernel_rfl) (by simp) ?_; refine AllReadyH.cons (o := { dst := some 32, op := Op.load 54 (Operand.tmp 31), type := 54, pos := "wal.go:131", after := #[{ on := 3, ground := Ground.data }], guard := none }) rfl (fun K hK => ?_) (AllReadyH.cons (o := { dst := some 37, op := Op.buildSlice 54 1 #[(0, Operand.tmp 36)], type := 54, pos := "wal.go:131", after := #[{ on := 8, ground := Ground.data }], guard := none }) rfl (fun K hK => ?_) (AllReadyH.nil))
  · go_simp
    refine hK.out _ _ (hHeld) (fun hHeld => ?_); clear hK K
    try simp only [Act.put, lsA, lsB, lsC]
    refine wpAnyH_ready (rs := [9]) (by kernel_rfl) (by simp) ?_; refine AllReadyH.cons (o := { dst := some 37, op := Op.buildSlice 54 1 #[(0, Operand.tmp 36)], type := 54, pos := "wal.go:131", after := #[{ on := 8, ground := Ground.data }], guard := none }) rfl (fun K hK => ?_) (AllReadyH.nil)
    go_simp
    refine hK.out _ _ ((HL3.out.more (o2 (Only.drew _ w3) (onlyA _ _))).c4) (fun hHeld => ?_); clear hK K
    try simp only [Act.put, lsA, lsB, lsC]
    refine wpAnyH_ready (rs := [10]) (by kernel_rfl) (by simp) ?_; refine AllReadyH.cons (o := { dst := some 38, op := Op.call { callee := Callee.builtin Builtin.append, args := #[Operand.tmp 32, Operand.tmp 37], argTypes := #[54, 54] }, type := 54, pos := "wal.go:131", after := #[{ on := 4, ground := Ground.data }, { on := 9, ground := Ground.data }], guard := none }) rfl (fun K hK => ?_) (AllReadyH.nil); obtain ⟨v9, w4, hap, ow4, on4, bl4⟩ := append_place w3 54 base v8 G.places HL3.out.pl (G.tail : Int) (HPL.out trivial) HB3.out (w3.drew.alloc (.cells #[.int .i64 (G.tail : Int)] 3)) (o2 (Only.drew _ w3) (onlyA _ _)) w3.heap.size (one_at w3.drew _ _); obtain ⟨ao9, n9, c9, rfl⟩ := own_slice ow4; have X4 := hide ((on4.cell (p := ⟨l, 4, none⟩) HL3.out.lt (fun h => HL3.out.n2 h.symm)).trans HL3.out.c4); have e8 := (on4.cell (p := ⟨l, 8, none⟩) HL3.out.lt (fun h => HL3.out.n2 h.symm)).trans HL3.out.c8; have f8 := (on4.frozen (p := ⟨l, 8, none⟩) HL3.out.lt (fun h => HL3.out.n2 h.symm)).trans (HL3.out.fz 8)
    have X4S : Hid (∀ u, (w4.setCell ⟨l, 8, none⟩ u).cell? ⟨l, 4, none⟩ = some (.int .i64 (G.tail : Int))) := fun u => (World.cell?_setCell_other _ _ _ _ (by intro e; injection e with _ e; cases e)).trans X4.out
    have OW4 := hide ow4; have ON4 := hide on4; have BL4 := hide bl4; have HAP := hide hap; clear ow4 on4 bl4 hap; rw [if_pos (by rfl)]; refine Lib.wp_append_run _ (.tmp 32) (.tmp 37) _ _ rfl _ _ rfl rfl _ _ HAP.out ?_; refine hK.out _ _ (X4.out) (fun hHeld => ?_); clear hK K
    try simp only [Act.put, lsA, lsB, lsC]
    refine tkQ (i := 11) (oi := { dst := some 39, op := Op.nilCheck (Operand.tmp 28), type := 0, pos := "wal.go:131", after := #[{ on := 0, ground := Ground.data }, { on := 0, ground := Ground.phase }, { on := 1, ground := Ground.phase }, { on := 2, ground := Ground.phase }, { on := 3, ground := Ground.phase }, { on := 4, ground := Ground.phase }, { on := 5, ground := Ground.phase }, { on := 6, ground := Ground.phase }, { on := 7, ground := Ground.phase }, { on := 8, ground := Ground.phase }, { on := 9, ground := Ground.phase }, { on := 10, ground := Ground.phase }], guard := none }) (v := .pointer (some ⟨l, 0, none⟩)) rfl (by kernel_rfl) (Or.inl ⟨by rfl, fun w' hSw => by clear hSw; go_simp⟩) (by assumption) ?_; simp only [Act.put, lsA, lsB, lsC]; refine tkQ (i := 12) (oi := { dst := some 40, op := Op.fieldAddr 85 (Operand.tmp 39) 8, type := 0, pos := "wal.go:131", after := #[{ on := 11, ground := Ground.data }, { on := 0, ground := Ground.phase }, { on := 1, ground := Ground.phase }, { on := 2, ground := Ground.phase }, { on := 3, ground := Ground.phase }, { on := 4, ground := Ground.phase }, { on := 5, ground := Ground.phase }, { on := 6, ground := Ground.phase }, { on := 7, ground := Ground.phase }, { on := 8, ground := Ground.phase }, { on := 9, ground := Ground.phase }, { on := 10, ground := Ground.phase }], guard := none }) (v := .pointer (some ⟨l, 8, none⟩)) rfl (by kernel_rfl) (Or.inl ⟨by rfl, fun w' hSw => by clear hSw; go_simp⟩) (by assumption) ?_; simp only [Act.put, lsA, lsB, lsC]
    refine wpAnyH_ready (rs := [13]) (by kernel_rfl) (by simp) ?_; refine AllReadyH.cons (o := { dst := none, op := Op.store 54 (Operand.tmp 40) (Operand.tmp 38), type := 0, pos := "wal.go:131", after := #[{ on := 12, ground := Ground.data }, { on := 10, ground := Ground.data }, { on := 10, ground := Ground.chain }, { on := 0, ground := Ground.phase }, { on := 1, ground := Ground.phase }, { on := 2, ground := Ground.phase }, { on := 3, ground := Ground.phase }, { on := 4, ground := Ground.phase }, { on := 5, ground := Ground.phase }, { on := 6, ground := Ground.phase }, { on := 7, ground := Ground.phase }, { on := 8, ground := Ground.phase }, { on := 9, ground := Ground.phase }, { on := 10, ground := Ground.phase }], guard := none }) rfl (fun K hK => ?_) (AllReadyH.nil)
    go_simp
    refine hK.out _ _ (X4S.out _) (fun hHeld => ?_); clear hK K
    try simp only [Act.put, lsA, lsB, lsC]
    refine wpAnyH_done (by kernel_rfl) ?_ _; refine NoPanic.normal ?_
    obtain ⟨hL5, hO5⟩ := HL3.out.places_ (G.tail : Int) ON4.out OW4.out (fun k e => by
      rcases BL4.out with e2 | e2
      · exact .inl (e2.symm.trans e)
      · right
        rw [e2] at e
        injection e with e
        rw [← e]
        simp)
    clear g8 g9 d8 e8 f8 hHeld; obtain ⟨w5, hw5⟩ : ∃ W, w4.setCell ⟨l, 8, none⟩ (.slice ao9 n9 c9) = W := ⟨_, rfl⟩; rw [hw5] at hL5 hO5 ⊢; have HL5 := hide hL5; have HO5 := hide hO5; clear hL5 hO5 hw5
    have hNB : ∀ k, some k = v8.ownBlock → k < w.heap.size := fun k e => (World.ownsRow.lt HL.out.pl k e.symm).2
    have hNA : ∀ k, some k = v7.ownBlock → k < w.heap.size := fun k e => (HL.out.row.lt k e.symm).2
    have hbl : b ≠ l := by have := HL.out.lt; omega
    have hb8 : ¬ some b = v8.ownBlock := fun e => by have := hNB b e; omega
    have hb7 : ¬ some b = v7.ownBlock := fun e => by have := hNA b e; omega
    have hblt := World.block_lt_of_cell? _ _ hb3; have hb5 := (HO5.out.cell (p := ⟨b, 0, none⟩) hblt (fun e => e.elim hbl hb8)).trans hb3; obtain ⟨v10, w6, hap2, ow6, gr6, bl6⟩ := append_string (P := Tryz.prog) w5 base 80 9 80 5 i0 Tryz.underlying80 Tryz.underlying9 hi hz0 hz1 hz2 v7 G.stream.length (cells G.stream) HL5.out.row.own N (by have := HI2.out trivial; omega) (Nat.le_trans HB3.out HO5.out.size); obtain ⟨ao10, n10, c10, rfl⟩ := own_slice ow6
    have ow7 : w6.ownsRow base 5 1 (.slice ao10 n10 c10) (G.stream ++ E).length (cells (G.stream ++ E)) := by
      have e1 : (G.stream ++ E).length = G.stream.length + N.size := by rw [List.length_append, HNS.out]
      have e2 : cells (G.stream ++ E) = cells G.stream ++ Lib.strCells N := by rw [cells_append, ← HND.out]; rfl
      rw [e1, e2]
      exact ow6
    have on6 : Only (fun k => some k = v7.ownBlock) w5 w6 := Only.grown gr6 (fun k hk => hk.symm)
    have hl7 : ¬ some l = v7.ownBlock := fun e => HL5.out.n1 e.symm
    have e7 := (on6.cell (p := ⟨l, 7, none⟩) HL5.out.lt hl7).trans HL5.out.c7; have f7 := (on6.frozen (p := ⟨l, 7, none⟩) HL5.out.lt hl7).trans (HL5.out.fz 7)
    obtain ⟨hL7, hO7⟩ := HL5.out.stream_ E on6 ow7 (fun k e => by
      rcases bl6 with e2 | e2
      · exact .inl (e2.symm.trans e)
      · right
        rw [e2] at e
        injection e with e
        exact Nat.le_of_eq e)
    have hb6 := (hO7.cell (p := ⟨b, 0, none⟩) (Nat.lt_of_lt_of_le hblt HO5.out.size) (fun e => e.elim hbl hb7)).trans hb5; have p7 := HL5.out.c7; have x4 := (on6.cell (p := ⟨l, 4, none⟩) HL5.out.lt hl7).trans HL5.out.c4; have xf4 := (on6.frozen (p := ⟨l, 4, none⟩) HL5.out.lt hl7).trans (HL5.out.fz 4); have xb := (on6.cell (p := ⟨b, 0, none⟩) (Nat.lt_of_lt_of_le hblt HO5.out.size) hb7).trans hb5
    simp only at x4
    obtain ⟨T, hT⟩ : ∃ T, G.tail + E.length = T := ⟨_, rfl⟩
    have hT1 : (G.tail : Int) + (N.size : Int) = (T : Int) := by have := HNS.out; omega
    have hT2 : (T : Int) < 1099600000000 := by have := HI2.out trivial; omega
    have HT := hide hT; have HAP2 := hide hap2; have HL7 := hide hL7; have HO7 := hide hO7; have HB6 := hide hb6; have BL6 := hide bl6; have HBL := hide hbl; clear hap2 hL7 hO7 ow6 ow7 gr6 bl6 on6 hNB hNA hb8 hb7 hb5 hb3 hb6 hl7 hblt hbl d4 hT
    try rw [Exit.then]
    go_wp2_with (at_builtin; go_must (refine Lib.wpList_append_run _ rfl (.tmp 45) (.tmp 46) _ _ rfl _ _ rfl rfl _ _ HAP2.out ?_))
    go_ret2
    obtain ⟨hL8, hO8⟩ := HL7.out.tail_ T
    have hg : { ({ ({ G with places := G.places ++ [(G.tail : Int)] } : Lg) with stream := G.stream ++ E } : Lg) with tail := T } = G.app E := by unfold Lg.app; rw [HT.out]
    rw [hg] at hL8; refine ⟨rfl, _, _, hL8, ?_, fun k e => ?_, fun k e => ?_⟩
    · exact (((HO3.out.mono (T := fun k => k = l ∨ some k = v7.ownBlock ∨ some k = v8.ownBlock) (fun _ _ h => h.elim)).trans HO5.out (fun _ _ h => h.elim .inl (fun h => .inr (.inr h)))).trans HO7.out (fun _ _ h => h.elim .inl (fun h => .inr (.inl h)))).trans hO8 (fun _ _ h => .inl h)
    · rcases BL6.out with e2 | e2
      · exact .inl (e2.symm.trans e)
      · right
        rw [e2] at e
        injection e with e
        have := HO3.out.size; have := HO5.out.size
        omega
    · rcases BL4.out with e2 | e2
      · exact .inl (e2.symm.trans e)
      · right
        rw [e2] at e
        injection e with e
        have := HO3.out.size; rw [← e]
        simp
        omega
  · go_simp
    refine hK.out _ _ ((HL3.out.more (o2 (Only.drew _ w3) (onlyA _ _))).c4) (fun hHeld => ?_); clear hK K
    try simp only [Act.put, lsA, lsB, lsC]
    refine wpAnyH_ready (rs := [4]) (by kernel_rfl) (by simp) ?_; refine AllReadyH.cons (o := { dst := some 32, op := Op.load 54 (Operand.tmp 31), type := 54, pos := "wal.go:131", after := #[{ on := 3, ground := Ground.data }], guard := none }) rfl (fun K hK => ?_) (AllReadyH.nil)
    go_simp
    refine hK.out _ _ (hHeld) (fun hHeld => ?_); clear hK K
    try simp only [Act.put, lsA, lsB, lsC]
    refine wpAnyH_ready (rs := [10]) (by kernel_rfl) (by simp) ?_; refine AllReadyH.cons (o := { dst := some 38, op := Op.call { callee := Callee.builtin Builtin.append, args := #[Operand.tmp 32, Operand.tmp 37], argTypes := #[54, 54] }, type := 54, pos := "wal.go:131", after := #[{ on := 4, ground := Ground.data }, { on := 9, ground := Ground.data }], guard := none }) rfl (fun K hK => ?_) (AllReadyH.nil); obtain ⟨v9, w4, hap, ow4, on4, bl4⟩ := append_place w3 54 base v8 G.places HL3.out.pl (G.tail : Int) (HPL.out trivial) HB3.out (w3.drew.alloc (.cells #[.int .i64 (G.tail : Int)] 3)) (o2 (Only.drew _ w3) (onlyA _ _)) w3.heap.size (one_at w3.drew _ _); obtain ⟨ao9, n9, c9, rfl⟩ := own_slice ow4; have X4 := hide ((on4.cell (p := ⟨l, 4, none⟩) HL3.out.lt (fun h => HL3.out.n2 h.symm)).trans HL3.out.c4); have e8 := (on4.cell (p := ⟨l, 8, none⟩) HL3.out.lt (fun h => HL3.out.n2 h.symm)).trans HL3.out.c8; have f8 := (on4.frozen (p := ⟨l, 8, none⟩) HL3.out.lt (fun h => HL3.out.n2 h.symm)).trans (HL3.out.fz 8)
    have X4S : Hid (∀ u, (w4.setCell ⟨l, 8, none⟩ u).cell? ⟨l, 4, none⟩ = some (.int .i64 (G.tail : Int))) := fun u => (World.cell?_setCell_other _ _ _ _ (by intro e; injection e with _ e; cases e)).trans X4.out
    have OW4 := hide ow4; have ON4 := hide on4; have BL4 := hide bl4; have HAP := hide hap; clear ow4 on4 bl4 hap; rw [if_pos (by rfl)]; refine Lib.wp_append_run _ (.tmp 32) (.tmp 37) _ _ rfl _ _ rfl rfl _ _ HAP.out ?_; refine hK.out _ _ (X4.out) (fun hHeld => ?_); clear hK K
    try simp only [Act.put, lsA, lsB, lsC]
    refine tkQ (i := 11) (oi := { dst := some 39, op := Op.nilCheck (Operand.tmp 28), type := 0, pos := "wal.go:131", after := #[{ on := 0, ground := Ground.data }, { on := 0, ground := Ground.phase }, { on := 1, ground := Ground.phase }, { on := 2, ground := Ground.phase }, { on := 3, ground := Ground.phase }, { on := 4, ground := Ground.phase }, { on := 5, ground := Ground.phase }, { on := 6, ground := Ground.phase }, { on := 7, ground := Ground.phase }, { on := 8, ground := Ground.phase }, { on := 9, ground := Ground.phase }, { on := 10, ground := Ground.phase }], guard := none }) (v := .pointer (some ⟨l, 0, none⟩)) rfl (by kernel_rfl) (Or.inl ⟨by rfl, fun w' hSw => by clear hSw; go_simp⟩) (by assumption) ?_; simp only [Act.put, lsA, lsB, lsC]; refine tkQ (i := 12) (oi := { dst := some 40, op := Op.fieldAddr 85 (Operand.tmp 39) 8, type := 0, pos := "wal.go:131", after := #[{ on := 11, ground := Ground.data }, { on := 0, ground := Ground.phase }, { on := 1, ground := Ground.phase }, { on := 2, ground := Ground.phase }, { on := 3, ground := Ground.phase }, { on := 4, ground := Ground.phase }, { on := 5, ground := Ground.phase }, { on := 6, ground := Ground.phase }, { on := 7, ground := Ground.phase }, { on := 8, ground := Ground.phase }, { on := 9, ground := Ground.phase }, { on := 10, ground := Ground.phase }], guard := none }) (v := .pointer (some ⟨l, 8, none⟩)) rfl (by kernel_rfl) (Or.inl ⟨by rfl, fun w' hSw => by clear hSw; go_simp⟩) (by assumption) ?_; simp only [Act.put, lsA, lsB, lsC]
    refine wpAnyH_ready (rs := [13]) (by kernel_rfl) (by simp) ?_; refine AllReadyH.cons (o := { dst := none, op := Op.store 54 (Operand.tmp 40) (Operand.tmp 38), type := 0, pos := "wal.go:131", after := #[{ on := 12, ground := Ground.data }, { on := 10, ground := Ground.data }, { on := 10, ground := Ground.chain }, { on := 0, ground := Ground.phase }, { on := 1, ground := Ground.phase }, { on := 2, ground := Ground.phase }, { on := 3, ground := Ground.phase }, { on := 4, ground := Ground.phase }, { on := 5, ground := Ground.phase }, { on := 6, ground := Ground.phase }, { on := 7, ground := Ground.phase }, { on := 8, ground := Ground.phase }, { on := 9, ground := Ground.phase }, { on := 10, ground := Ground.phase }], guard := none }) rfl (fun K hK => ?_) (AllReadyH.nil)
    go_simp
    refine hK.out _ _ (X4S.out _) (fun hHeld => ?_); clear hK K
    try simp only [Act.put, lsA, lsB, lsC]
    refine wpAnyH_done (by kernel_rfl) ?_ _; refine NoPanic.normal ?_
    obtain ⟨hL5, hO5⟩ := HL3.out.places_ (G.tail : Int) ON4.out OW4.out (fun k e => by
      rcases BL4.out with e2 | e2
      · exact .inl (e2.symm.trans e)
      · right
        rw [e2] at e
        injection e with e
        rw [← e]
        simp)
    clear g8 g9 d8 e8 f8 hHeld; obtain ⟨w5, hw5⟩ : ∃ W, w4.setCell ⟨l, 8, none⟩ (.slice ao9 n9 c9) = W := ⟨_, rfl⟩; rw [hw5] at hL5 hO5 ⊢; have HL5 := hide hL5; have HO5 := hide hO5; clear hL5 hO5 hw5
    have hNB : ∀ k, some k = v8.ownBlock → k < w.heap.size := fun k e => (World.ownsRow.lt HL.out.pl k e.symm).2
    have hNA : ∀ k, some k = v7.ownBlock → k < w.heap.size := fun k e => (HL.out.row.lt k e.symm).2
    have hbl : b ≠ l := by have := HL.out.lt; omega
    have hb8 : ¬ some b = v8.ownBlock := fun e => by have := hNB b e; omega
    have hb7 : ¬ some b = v7.ownBlock := fun e => by have := hNA b e; omega
    have hblt := World.block_lt_of_cell? _ _ hb3; have hb5 := (HO5.out.cell (p := ⟨b, 0, none⟩) hblt (fun e => e.elim hbl hb8)).trans hb3; obtain ⟨v10, w6, hap2, ow6, gr6, bl6⟩ := append_string (P := Tryz.prog) w5 base 80 9 80 5 i0 Tryz.underlying80 Tryz.underlying9 hi hz0 hz1 hz2 v7 G.stream.length (cells G.stream) HL5.out.row.own N (by have := HI2.out trivial; omega) (Nat.le_trans HB3.out HO5.out.size); obtain ⟨ao10, n10, c10, rfl⟩ := own_slice ow6
    have ow7 : w6.ownsRow base 5 1 (.slice ao10 n10 c10) (G.stream ++ E).length (cells (G.stream ++ E)) := by
      have e1 : (G.stream ++ E).length = G.stream.length + N.size := by rw [List.length_append, HNS.out]
      have e2 : cells (G.stream ++ E) = cells G.stream ++ Lib.strCells N := by rw [cells_append, ← HND.out]; rfl
      rw [e1, e2]
      exact ow6
    have on6 : Only (fun k => some k = v7.ownBlock) w5 w6 := Only.grown gr6 (fun k hk => hk.symm)
    have hl7 : ¬ some l = v7.ownBlock := fun e => HL5.out.n1 e.symm
    have e7 := (on6.cell (p := ⟨l, 7, none⟩) HL5.out.lt hl7).trans HL5.out.c7; have f7 := (on6.frozen (p := ⟨l, 7, none⟩) HL5.out.lt hl7).trans (HL5.out.fz 7)
    obtain ⟨hL7, hO7⟩ := HL5.out.stream_ E on6 ow7 (fun k e => by
      rcases bl6 with e2 | e2
      · exact .inl (e2.symm.trans e)
      · right
        rw [e2] at e
        injection e with e
        exact Nat.le_of_eq e)
    have hb6 := (hO7.cell (p := ⟨b, 0, none⟩) (Nat.lt_of_lt_of_le hblt HO5.out.size) (fun e => e.elim hbl hb7)).trans hb5; have p7 := HL5.out.c7; have x4 := (on6.cell (p := ⟨l, 4, none⟩) HL5.out.lt hl7).trans HL5.out.c4; have xf4 := (on6.frozen (p := ⟨l, 4, none⟩) HL5.out.lt hl7).trans (HL5.out.fz 4); have xb := (on6.cell (p := ⟨b, 0, none⟩) (Nat.lt_of_lt_of_le hblt HO5.out.size) hb7).trans hb5
    simp only at x4
    obtain ⟨T, hT⟩ : ∃ T, G.tail + E.length = T := ⟨_, rfl⟩
    have hT1 : (G.tail : Int) + (N.size : Int) = (T : Int) := by have := HNS.out; omega
    have hT2 : (T : Int) < 1099600000000 := by have := HI2.out trivial; omega
    have HT := hide hT; have HAP2 := hide hap2; have HL7 := hide hL7; have HO7 := hide hO7; have HB6 := hide hb6; have BL6 := hide bl6; have HBL := hide hbl; clear hap2 hL7 hO7 ow6 ow7 gr6 bl6 on6 hNB hNA hb8 hb7 hb5 hb3 hb6 hl7 hblt hbl d4 hT
    try rw [Exit.then]
    go_wp2_with (at_builtin; go_must (refine Lib.wpList_append_run _ rfl (.tmp 45) (.tmp 46) _ _ rfl _ _ rfl rfl _ _ HAP2.out ?_))
    go_ret2
    obtain ⟨hL8, hO8⟩ := HL7.out.tail_ T
    have hg : { ({ ({ G with places := G.places ++ [(G.tail : Int)] } : Lg) with stream := G.stream ++ E } : Lg) with tail := T } = G.app E := by unfold Lg.app; rw [HT.out]
    rw [hg] at hL8; refine ⟨rfl, _, _, hL8, ?_, fun k e => ?_, fun k e => ?_⟩
    · exact (((HO3.out.mono (T := fun k => k = l ∨ some k = v7.ownBlock ∨ some k = v8.ownBlock) (fun _ _ h => h.elim)).trans HO5.out (fun _ _ h => h.elim .inl (fun h => .inr (.inr h)))).trans HO7.out (fun _ _ h => h.elim .inl (fun h => .inr (.inl h)))).trans hO8 (fun _ _ h => .inl h)
    · rcases BL6.out with e2 | e2
      · exact .inl (e2.symm.trans e)
      · right
        rw [e2] at e
        injection e with e
        have := HO3.out.size; have := HO5.out.size
        omega
    · rcases BL4.out with e2 | e2
      · exact .inl (e2.symm.trans e)
      · right
        rw [e2] at e
        injection e with e
        have := HO3.out.size; rw [← e]
        simp
        omega
theorem LogOw.room_ {W : World} {l d : Nat} {G : Lg} {base : Nat} {v7 v8 : Value} (h : LogOw W l d G base v7 v8) (ok : G.Ok) : Calls Tryz.prog 60 #[.pointer (some ⟨l, 0, none⟩)] W fun e w' => e = .returned (.int .i64 (G.room : Int)) ∧ Only (fun _ => False) W w' := by
  obtain ⟨B, ao, cp, _, hA, _⟩ := h.at_
  exact room_any W l d G B ao cp v8 hA ok
end Go.Proofs.YtebijheonkagfaaGreatDoor
namespace Go.Proofs.YtebijheonkagfaaGreatDoor
open Go.RowKit
set_option maxRecDepth 100000 in
theorem append_full (w : World) (l d : Nat) (G : Lg) (base : Nat) (v7 v8 : Value) (h : LogOw w l d G base v7 v8) (ok : G.Ok) (r : Rc) (L : Loc) (hr : RcAt w r L) (hv : (r.at_ G.tail).valid) (hroom : G.room < (r.at_ G.tail).enc.length) :
    Calls Tryz.prog 14 #[.pointer (some ⟨l, 0, none⟩), .agg (r.cells L)] w fun e w' => e = .returned (.tuple #[.int .i64 0, .int .i64 50]) ∧ Only (fun _ => False) w w' := by
  have hrq : RcAt w (r.at_ (G.tail : Int)) L := hr.at_ _
  have hQ : Calls Tryz.prog 59 #[.agg ((r.at_ (G.tail : Int)).cells L)] (w.alloc (.cells ((r.at_ (G.tail : Int)).cells L) 59)) fun e w' => e = .returned (.tuple #[.string (str (r.at_ (G.tail : Int)).enc), .int .i64 0]) ∧ Only (fun _ => False) w w' :=
    (rencode_any _ _ L (hrq.go (onlyA w _))).mono (fun e w' hx => ⟨hx.ok hv, o2 (onlyA w _) hx.only⟩)
  have HQ := hide hQ; obtain ⟨N, hN⟩ : ∃ N, str (r.at_ (G.tail : Int)).enc = N := ⟨_, rfl⟩
  have hNs : N.size = (r.at_ (G.tail : Int)).enc.length := by rw [← hN, str_size]
  rw [hN] at HQ; have c4 := h.c4
  have c4' : ∀ o, (w.alloc o).cell? ⟨l, 4, none⟩ = some (.int .i64 (G.tail : Int)) := fun o => (h.more (onlyA w _)).c4
  have HL := hide h; have HRM := hide (fun W (hW : LogOw W l d G base v7 v8) => hW.room_ ok); obtain ⟨rm, hrm⟩ : ∃ rm, G.room = rm := ⟨_, rfl⟩; rw [hrm] at HRM hroom
  have i1 : (rm : Int) < (N.size : Int) := by omega
  clear h hr hrq hQ hv hN hNs hrm hroom ok
  go_enter Tryz.func14, Tryz.ntmps14
  go_wp2_with fail
  refine Calls.mono HQ.out ?_; rintro e w2 ⟨rfl, ho2⟩; have HL2 := hide (HL.out.more ho2); have HO2 := hide ho2; clear ho2 c4 c4'
  go_wp2_with fail
  refine (HRM.out _ HL2.out).mono ?_; rintro e w3 ⟨rfl, ho3⟩; have HO3 := hide (o2 HO2.out ho3); clear ho3
  go_wp2_with fail
  go_ret2
  exact ⟨rfl, HO3.out⟩
end Go.Proofs.YtebijheonkagfaaGreatDoor
