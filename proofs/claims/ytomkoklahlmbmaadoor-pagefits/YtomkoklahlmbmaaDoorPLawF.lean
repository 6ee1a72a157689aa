/- Walk of PageFits. -/
import Derived.Test.YtomkoklahlmbmaaDoorPAwake
import Derived.Test.YtomkoklahlmbmaaDoorPOpen
import Derived.Test.YtomkoklahlmbmaaDoorPPutE
import Derived.Test.YtomkoklahlmbmaaDoorPOut
import Derived.Deep.RegionHeld3
namespace Go.Proofs.YtomkoklahlmbmaaDoor
open Go.RowKit

theorem six_new {w X : World} {bx : Nat} (ho : Only (fun _ => False) w X) (hb : w.heap.size ≤ bx) (v0 v1 v2 v3 v4 v5 : Value) : Only (fun _ => False) w ((((((X.setCell ⟨bx, 0, none⟩ v0).setCell ⟨bx, 1, none⟩ v1).setCell ⟨bx, 2, none⟩ v2).setCell ⟨bx, 3, none⟩ v3).setCell ⟨bx, 4, none⟩ v4).setCell ⟨bx, 5, none⟩ v5) :=
  ho.trans (Only.six X bx v0 v1 v2 v3 v4 v5) (fun i hi e => by omega)
/-- Noughts made in any world, and turned into a text there. -/
theorem zeros_made (n : Nat) (hn : n ≤ 1000) : ∃ (O : Obj) (Z : ByteArray), Z.size = n ∧ (∀ W : World, (Instr.makeSlice 42 (.int .i64 (n : Int)) (.int .i64 (n : Int))).run Tryd.prog W = .ok (.slice (some ⟨W.heap.size, 0, none⟩) n n) (W.alloc O)) ∧
    (∀ (W : World) (g : Nat) (X : World), g = W.heap.size → Only (fun _ => False) (W.alloc O) X → (convert 42 9 (.slice (some ⟨g, 0, none⟩) n n)).run Tryd.prog X = .ok (.string Z) X) := by
  obtain ⟨i0, hi, hz0, hz1, hz2⟩ := info_parts Tryd.infoByte
  refine ⟨.cells (madeCells (Value.int .u8 0).cells ((n : Int).toNat * i0.size)) 5, ⟨(List.replicate n 0).toArray⟩, by simp [ByteArray.size], fun W => ?_, fun W g X hg hX => ?_⟩
  · have h := run_make (P := Tryd.prog) W 42 5 i0 (.int .u8 0) Tryd.underlying42 hi hz0 .i64 .i64 (n : Int) (n : Int) (by omega) (Int.le_refl _) (by rw [hz2]; omega) (by omega)
    simpa using h
  · subst hg
    obtain ⟨w', hmk, hown, hgr⟩ := run_make_full (P := Tryd.prog) W W.heap.size 42 5 i0 (.int .u8 0) 1 Tryd.underlying42 hi hz0 hz1 .i64 .i64 n (by rw [hz2]; omega) (by unfold maxLen; omega) (Nat.le_refl _)
    have h := run_make (P := Tryd.prog) W 42 5 i0 (.int .u8 0) Tryd.underlying42 hi hz0 .i64 .i64 (n : Int) (n : Int) (by omega) (Int.le_refl _) (by rw [hz2]; omega) (by omega)
    have e : w' = W.alloc (.cells (madeCells (Value.int .u8 0).cells ((n : Int).toNat * i0.size)) 5) := by
      rw [hmk] at h
      simp at h
      exact h
    subst e
    have e2 : (madeCells (Value.int .u8 0).cells (n * 1)).toList = cells (List.replicate n 0) := by
      have : (Value.int IntKind.u8 0).cells = #[.int .u8 0] := rfl
      rw [this, toList_madeCells_one]; simp [cells]
    rw [e2] at hown
    have hrow : Row (W.alloc (.cells (madeCells (Value.int .u8 0).cells ((n : Int).toNat * i0.size)) 5)) W.heap.size (.slice (some ⟨W.heap.size, 0, none⟩) n n) (some W.heap.size) (List.replicate n 0) := by
      refine ⟨?_, rfl⟩
      rw [List.length_replicate]
      exact hown
    have hrow2 : Row X W.heap.size (.slice (some ⟨W.heap.size, 0, none⟩) n n) (some W.heap.size) (List.replicate n 0) := by
      refine ⟨?_, rfl⟩
      obtain ⟨h1, h2⟩ := hrow.1
      refine ⟨h1, ?_⟩
      rcases h2 with ⟨h0, _⟩ | ⟨g', cap', cur, hv, hb, hg, hnc, hcm, hcs, htk⟩
      · cases h0
      · exact .inr ⟨g', cap', cur, hv, hb, (hX.block g' (by
          have := (Array.getElem?_eq_some_iff.1 hg).1
          exact this) (fun h => h)).trans hg, hnc, hcm, hcs, htk⟩
    exact bytes_back X _ _ _ _ hrow2
theorem isz_put (l : List ByteArray) (i : Nat) (it : ByteArray) : isz (l.take i ++ it :: l.drop i) = isz l + 2 + it.size := by
  rw [isz_app, isz_cons]
  have h := isz_app (l.take i) (l.drop i)
  rw [List.take_append_drop] at h
  omega
theorem put_len (l : List ByteArray) (i : Nat) (it : ByteArray) : (l.take i ++ it :: l.drop i).length = l.length + 1 := by
  rw [List.length_append, List.length_cons, List.length_take, List.length_drop]; omega
theorem put_out (l : List ByteArray) (i : Nat) (it : ByteArray) (hi : i ≤ l.length) : (l.take i ++ it :: l.drop i).take i ++ (l.take i ++ it :: l.drop i).drop (i + 1) = l := by
  have hl : (l.take i).length = i := by rw [List.length_take]; omega
  rw [List.take_left' hl, ← List.drop_drop, List.drop_left' hl, List.drop_one, List.tail_cons, List.take_append_drop]
/-- What Put answers in any world behind w, of a page too long. -/
theorem put_bad (w : World) (a k v r : Int) (h : ByteArray) (B cp : Nat) (ao : Option Addr) (l : List ByteArray) (i : Nat) (it : ByteArray) (hS : Strs w B ao l) (hF : Fit ao l.length cp) (hh : h.size ≤ 140737488355328) (hit : it.size ≤ 140737488355328) (hi : i ≤ l.length) (hlm : l.length ≤ 8796093021952) (hc : 255 < l.length + 1 ∨ 512 < 20 + h.size + (isz l + 2 + it.size)) (W : World) (hW : Only (fun _ => False) w W) :
    Calls Tryd.prog 17 #[.agg #[.int .i64 a, .int .i64 k, .int .i64 v, .int .i64 r, .string h, .slice ao l.length cp], .int .i64 (i : Int), .string it] W fun e w' =>
      ∃ ao' cp', e = .returned (.tuple #[.agg #[.int .i64 0, .int .i64 0, .int .i64 0, .int .i64 0, .string ⟨#[]⟩, .slice ao' 0 cp'], .int .i64 3]) ∧ Hid (Only (fun _ => False) w w') ∧ (∀ p, (W.cell? p).isSome = true → w'.cell? p = W.cell? p) ∧ (∀ p, (W.cell? p).isSome = true → w'.frozen? p = W.frozen? p) := by
  refine Calls.mono (put_any W a k v r h B cp ao l i it (hS.more hW) hF hh hit hi hlm) fun e w' hq => ?_
  obtain ⟨B1, ao1, cp1, he, _, _, ho, _⟩ := hq.1 (by rw [put_len, isz_put]; exact hc)
  refine ⟨ao1, cp1, he, o2 hW ho, fun p hp => ?_, fun p hp => ?_⟩
  · obtain ⟨x, hx⟩ := Option.isSome_iff_exists.1 hp
    exact ho.cell (World.block_lt_of_cell? W _ hx) (fun h => h)
  · obtain ⟨x, hx⟩ := Option.isSome_iff_exists.1 hp
    exact ho.frozen (World.block_lt_of_cell? W _ hx) (fun h => h)
/-- The page that Put answers: its list, in any world behind w. -/
structure Put (w w' : World) (B' : Nat) (ao' : Option Addr) (cp' : Nat) (nl : List ByteArray) : Prop where
  strs : Strs w' B' ao' nl
  fit : Fit ao' nl.length cp'
  only : Only (fun _ => False) w w'
  new : w.heap.size ≤ B'
theorem put_good (w : World) (a k v r : Int) (h : ByteArray) (B cp : Nat) (ao : Option Addr) (l : List ByteArray) (i : Nat) (it : ByteArray) (hS : Strs w B ao l) (hF : Fit ao l.length cp) (hh : h.size ≤ 140737488355328) (hit : it.size ≤ 140737488355328) (hi : i ≤ l.length) (hlm : l.length ≤ 8796093021952) (hc : ¬ (255 < l.length + 1 ∨ 512 < 20 + h.size + (isz l + 2 + it.size))) (W : World) (hW : Only (fun _ => False) w W) :
    Calls Tryd.prog 17 #[.agg #[.int .i64 a, .int .i64 k, .int .i64 v, .int .i64 r, .string h, .slice ao l.length cp], .int .i64 (i : Int), .string it] W fun e w' =>
      ∃ B' ao' cp', e = .returned (.tuple #[.agg #[.int .i64 a, .int .i64 k, .int .i64 v, .int .i64 r, .string h, .slice ao' (l.take i ++ it :: l.drop i).length cp'], .int .i64 0]) ∧ Hid (Put W w' B' ao' cp' (l.take i ++ it :: l.drop i)) ∧ Hid (Only (fun _ => False) w w') ∧ (∀ p, (W.cell? p).isSome = true → w'.cell? p = W.cell? p) ∧ (∀ p, (W.cell? p).isSome = true → w'.frozen? p = W.frozen? p) := by
  refine Calls.mono (put_any W a k v r h B cp ao l i it (hS.more hW) hF hh hit hi hlm) fun e w' hq => ?_
  obtain ⟨B1, ao1, cp1, he, hs1, hf1, ho, hn⟩ := hq.2 (by rw [put_len, isz_put]; exact hc)
  refine ⟨B1, ao1, cp1, he, ⟨hs1, hf1, ho, hn (by show 0 < (l.take i ++ it :: l.drop i).length; rw [put_len]; omega)⟩, o2 hW ho, fun p hp => ?_, fun p hp => ?_⟩
  · obtain ⟨x, hx⟩ := Option.isSome_iff_exists.1 hp
    exact ho.cell (World.block_lt_of_cell? W _ hx) (fun h => h)
  · obtain ⟨x, hx⟩ := Option.isSome_iff_exists.1 hp
    exact ho.frozen (World.block_lt_of_cell? W _ hx) (fun h => h)
end Go.Proofs.YtomkoklahlmbmaaDoor
