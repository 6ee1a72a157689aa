/- The steps of the document's body. -/
import Derived.Test.YtcbdpdkmkncffaaGreatDoorRWalkA
import Derived.Deep.QuietTactic
import Derived.BigQuiet
import Derived.Laws.StructEq
import Derived.Test.YtcbdpdkmkncffaaGreatDoorPBody
import Derived.Lib.FrozenHead
import Derived.Laws.IdiomStrings
import Derived.Test.YtcbdpdkmkncffaaGreatDoorPEnc
import Derived.Deep.RegionHeld3
import Derived.Test.YtcbdpdkmkncffaaGreatDoorRLayA
import Derived.Test.YtcbdpdkmkncffaaGreatDoorRWalkC
import Derived.Lib.AppendZeros
namespace Go.Proofs.YtcbdpdkmkncffaaGreatDoor
open Go.RowKit

end Go.Proofs.YtcbdpdkmkncffaaGreatDoor

namespace Go.Proofs.YtcbdpdkmkncffaaGreatDoor
open Go.RowKit

theorem guardO (x y : Operand) (xs ys : Array Value) (w : World) : (eqGuard .neq 82 x y (.agg xs) (.agg ys)).run Tryz.prog w = .ok () w := run_eqGuard_agg w .neq 82 x y xs ys (by kernel_rfl)
attribute [local go_sem] guardO
theorem guardB (x y : Operand) (xs ys : Array Value) (w : World) : (eqGuard .neq 84 x y (.agg xs) (.agg ys)).run Tryz.prog w = .ok () w := run_eqGuard_agg w .neq 84 x y xs ys (by kernel_rfl)
attribute [local go_sem] guardB
end Go.Proofs.YtcbdpdkmkncffaaGreatDoor

namespace Go.Proofs.YtcbdpdkmkncffaaGreatDoor
open Go.RowKit

theorem im_ext {i i' : Im} (h1 : i.page = i'.page) (h2 : i.body.lsn = i'.body.lsn ∧ i.body.kind = i'.body.kind ∧ i.body.level = i'.body.level ∧ i.body.right = i'.body.right ∧ i.body.high = i'.body.high ∧ i.body.items = i'.body.items) : i = i' := by
  obtain ⟨p, ⟨a, b, c, d, e, f⟩⟩ := i
  obtain ⟨p', ⟨a', b', c', d', e', f'⟩⟩ := i'
  simp only at h1 h2
  obtain ⟨rfl, rfl, rfl, rfl, rfl, rfl⟩ := h2
  subst h1
  rfl
end Go.Proofs.YtcbdpdkmkncffaaGreatDoor

namespace Go.Proofs.YtcbdpdkmkncffaaGreatDoor
open Go.RowKit

theorem rc_ext {a b : Rc} (h0 : a.lsn = b.lsn) (h1 : a.prev = b.prev) (h2 : a.next = b.next) (h3 : a.kind = b.kind) (h4 : a.xid = b.xid) (h5 : a.page = b.page) (h6 : a.slot = b.slot) (h7 : a.old = b.old) (h8 : a.new = b.new) (h9 : a.redo = b.redo) (h10 : a.data = b.data) (h11 : a.slots = b.slots) (h12 : a.more = b.more) (h13 : a.images = b.images) (h14 : a.pages = b.pages) (h15 : a.txns = b.txns) : a = b := by
  obtain ⟨_, _, _, _, _, _, _, _, _, _, _, _, _, _, _, _⟩ := a
  obtain ⟨_, _, _, _, _, _, _, _, _, _, _, _, _, _, _, _⟩ := b
  simp only at h0 h1 h2 h3 h4 h5 h6 h7 h8 h9 h10 h11 h12 h13 h14 h15
  subst h0 h1 h2 h3 h4 h5 h6 h7 h8 h9 h10 h11 h12 h13 h14 h15
  rfl
theorem two_boxes (w : World) (a b : Rc) (L M : Loc) : ∃ W, (w.alloc (.cells (a.cells L) 37)).alloc (.cells (b.cells M) 37) = W ∧ Bx W w.heap.size a L ∧ Bx W (w.heap.size + 1) b M ∧ Only (fun _ => False) w W := by
  refine ⟨_, rfl, (Bx.new w a L).more (onlyA _ _), ?_, o2 (onlyA _ _) (onlyA _ _)⟩
  have h := Bx.new (w.alloc (.cells (a.cells L) 37)) b M
  simpa using h
end Go.Proofs.YtcbdpdkmkncffaaGreatDoor

namespace Go.Proofs.YtcbdpdkmkncffaaGreatDoor
open Go.RowKit

set_option maxRecDepth 100000 in
set_option maxHeartbeats 800000 in
theorem zints_any (w : World) (B B' cp cp' : Nat) (ao ao' : Option Addr) (l l' : List Int) (h : Zs w B ao l) (h' : Zs w B' ao' l') :
    Calls Tryz.prog 34 #[.slice ao l.length cp, .slice ao' l'.length cp'] w fun e w' => RB e (l = l') ∧ Only (fun _ => False) w w' := by
  have hlen := h.len
  have hlen' := h'.len
  have HS := hide h
  have HS' := hide h'
  clear h h'
  by_cases hn : l.length = l'.length
  · have hb : ((l.length : Int) != (l'.length : Int)) = false := by simp; omega
    go_enter Tryz.func34, Tryz.ntmps34
    go_wp2_with fail
    go_loopw [5] (fun y wr => ∃ j : Nat, j ≤ l.length ∧ y = .int .i64 (j : Int) ∧ Hid (l.take j = l'.take j) ∧ Hid (Only (fun _ => False) w wr)) (fun y _ => l.length - (intOf y).toNat)
    case atStart => exact ⟨0, by omega, rfl, rfl, Only.refl _ _⟩
    case round =>
      obtain ⟨j, hj, rfl, HQ, HO⟩ := hrel
      by_cases hlt : j < l.length
      · have hlt' : j < l'.length := by omega
        obtain ⟨o, e1, c1⟩ := (HS.out.more HO.out).at_ (by omega)
        obtain ⟨o', e1', c1'⟩ := (HS'.out.more HO.out).at_ (by omega)
        have k1 := c1 j hlt
        have k1' := c1' j hlt'
        have hj1 : (j : Int) < (l.length : Int) := by omega
        have hj1' : (j : Int) < (l'.length : Int) := by omega
        obtain ⟨z, hz⟩ : ∃ z, l[j] = z := ⟨_, rfl⟩
        obtain ⟨z', hz'⟩ : ∃ z', l'[j] = z' := ⟨_, rfl⟩
        have HT : Hid (l.take (j + 1) = l.take j ++ [z]) := by unfold Hid; rw [List.take_succ_eq_append_getElem hlt, hz]
        have HT' : Hid (l'.take (j + 1) = l'.take j ++ [z']) := by unfold Hid; rw [List.take_succ_eq_append_getElem hlt', hz']
        rw [hz] at k1
        rw [hz'] at k1'
        have HZ := hide hz
        have HZ' := hide hz'
        clear c1 c1' hz hz'
        subst e1
        subst e1'
        by_cases hzz : z = z'
        · have HF : Hid (l.take (j + 1) = l'.take (j + 1)) := by unfold Hid; rw [HT.out, HT'.out, HQ.out, hzz]
          subst hzz
          go_wp2_with fail
          go_region
          go_wp2_with fail
          go_roundw
          case rel => exact ⟨j + 1, by omega, by go_num, HF, o2 HO.out (Only.drew _ _)⟩
          case measure => simp [intOf]; omega
        · have HF : Hid (¬ l = l') := fun h => hzz (by rw [← HZ.out, ← HZ'.out]; simp [h])
          have hx : (z != z') = true := by simpa using hzz
          clear hzz
          go_wp2_with fail
          go_region
          go_wp2_with fail
          go_ret
          exact ⟨RB.no HF.out, o2 HO.out (Only.drew _ _)⟩
      · have e : l.take j = l := List.take_of_length_le (by omega)
        have e' : l'.take j = l' := List.take_of_length_le (by omega)
        rw [e, e'] at HQ
        go_wp2_with fail
        go_ret
        exact ⟨RB.yes HQ.out, HO.out⟩
  · have hb : ((l.length : Int) != (l'.length : Int)) = true := by simp; omega
    go_enter Tryz.func34, Tryz.ntmps34
    go_wp2_with fail
    go_ret
    exact ⟨RB.no (fun h => hn (by rw [h])), Only.refl _ _⟩
end Go.Proofs.YtcbdpdkmkncffaaGreatDoor

namespace Go.Proofs.YtcbdpdkmkncffaaGreatDoor
open Go.RowKit

/-- Cells laid into a row whose mark lies behind its end. -/
theorem store_G (P : Program) (g o : Nat) (t : TypeId) (fz : Nat × Nat) : ∀ (vs : List Value) (i : Nat) (cur : Array Value) (w : World), w.heap[g]? = some (.cells cur t fz) → (fz.2 = 0 ∨ cur.size ≤ fz.1) → o + i + vs.length ≤ cur.size → (∀ v ∈ vs, v.oneCell' = true) →
    (storeCells ⟨g, o, none⟩ vs i).run P w = .ok () (w.setRow g (cur.toList.take (o + i) ++ vs ++ cur.toList.drop (o + i + vs.length)).toArray)
  | [], i, cur, w, hg, _, _, _ => by
    simp only [storeCells, List.append_nil, List.length_nil, Nat.add_zero, List.take_append_drop, Array.toArray_toList]
    rw [setRow_self w g cur t fz hg]
    rfl
  | v :: rest, i, cur, w, hg, hfz, hl, h1 => by
    have hi : o + i < cur.size := by simp at hl; omega
    have hadd : (⟨g, o, none⟩ : Addr).add i = ⟨g, o + i, none⟩ := by unfold Addr.add; split <;> simp_all
    have hcell : w.cell? ⟨g, o + i, none⟩ = some cur[o + i] := by simp [World.cell?, hg, hi]
    have hfro : w.frozen? ⟨g, o + i, none⟩ = false := by
      obtain ⟨lo, hi'⟩ := fz
      simp only [World.frozen?, hg, Bool.and_eq_false_iff, decide_eq_false_iff_not]
      simp only at hfz
      omega
    have hst : (store ((⟨g, o, none⟩ : Addr).add i) v).run P w = .ok () (w.setRow g (cur.setIfInBounds (o + i) v)) := by
      rw [hadd, run_store P w _ v _ (h1 v (by simp)), hcell]
      simp [hfro, setCell_eq_setRow w g (o + i) cur t fz v hg]
    have ih := store_G P g o t fz rest (i + 1) (cur.setIfInBounds (o + i) v) (w.setRow g (cur.setIfInBounds (o + i) v)) (setRow_heap w g cur _ t _ hg) (by simpa using hfz) (by simp at hl ⊢; omega) (fun x hx => h1 x (by simp [hx]))
    simp only [storeCells, Sem.run_bind, hst, Result.andThen_ok, ih, setRow_setRow]
    congr 3
    have e := list_seg_step cur.toList (o + i) v rest (by simp at hl ⊢; omega)
    simpa [Array.toList_setIfInBounds, Nat.add_assoc] using e
theorem room_G {P : Program} (w : World) (t u ty e : TypeId) (i : TypeInfo) (ht : P.underlying t = some (.slice e)) (hu : P.underlying u = some .string) (hi : P.info? e = some i) (hs1 : i.size = 1)
    (g sLen sCap : Nat) (cur : Array Value) (fz : Nat × Nat) (hg : w.heap[g]? = some (.cells cur e fz)) (hfz : fz.2 = 0 ∨ cur.size ≤ fz.1) (s : ByteArray)
    (hroom : sLen + s.size ≤ sCap) (hfit : sLen + s.size ≤ cur.size) :
    (Builtin.append_ #[t, u] ty #[.slice (some ⟨g, 0, none⟩) sLen sCap, .string s]).run P w =
      .ok (.slice (some ⟨g, 0, none⟩) (sLen + s.size) sCap) (w.setRow g (cur.toList.take sLen ++ Lib.strCells s ++ cur.toList.drop (sLen + s.size)).toArray) := by
  have hf := Lib.run_firstCells_string (P := P) w 1 s
  have hst := store_G P g sLen e fz (Lib.strCells s) 0 cur w hg hfz (by simpa [Lib.strCells_length] using hfit) (Lib.strCells_oneCell s)
  simp only [Nat.add_zero, Lib.strCells_length] at hst
  simp [Builtin.append_, run_underlying ht, run_underlying hu, sizeOf, typeInfo, hi, hs1, Builtin.lenOf, hroom, hf, Addr.add_lit, hst]
/-- A row of bytes of its own, whose mark lies behind its end. -/
structure RowG (w : World) (base : Nat) (v : Value) (l : List UInt8) : Prop where
  ex : ∃ g cap cur fz, v = .slice (some ⟨g, 0, none⟩) l.length cap ∧ base ≤ g ∧ w.heap[g]? = some (.cells cur 5 fz) ∧ (fz.2 = 0 ∨ cur.size ≤ fz.1) ∧ l.length ≤ cap ∧ cap ≤ maxLen ∧ cur.size = cap ∧ cur.toList.take l.length = cells l
theorem RowG.kept {w w' : World} {base : Nat} {v : Value} {l : List UInt8} (h : RowG w base v l) (ho : Only (fun _ => False) w w') : RowG w' base v l := by
  obtain ⟨g, cap, cur, fz, hv, hb, hh, r⟩ := h.ex
  exact ⟨g, cap, cur, fz, hv, hb, by rw [ho.block g (Array.getElem?_eq_some_iff.1 hh).1 (fun h => h)]; exact hh, r⟩
theorem RowG.parts {w : World} {base : Nat} {v : Value} {l : List UInt8} (h : RowG w base v l) : ∃ g cap, v = .slice (some ⟨g, 0, none⟩) l.length cap ∧ base ≤ g ∧ g < w.heap.size ∧ ∀ j (hj : j < l.length), w.cell? ((⟨g, 0, none⟩ : Addr).add j) = some (.int .u8 (l[j].toNat : Int)) := by
  obtain ⟨g, cap, cur, fz, hv, hb, hh, hfz, hn, hcm, hcs, htk⟩ := h.ex
  refine ⟨g, cap, hv, hb, (Array.getElem?_eq_some_iff.1 hh).1, fun j hj => ?_⟩
  have hadd : (⟨g, 0, none⟩ : Addr).add j = ⟨g, j, none⟩ := by unfold Addr.add; split <;> simp_all
  rw [hadd, cell_of_row w g j cur 5 fz hh]
  have h1 : (cells l)[j]? = some (.int .u8 (l[j].toNat : Int)) := by
    unfold cells
    rw [List.getElem?_map, List.getElem?_eq_getElem hj]
    rfl
  rw [← htk, List.getElem?_take, if_pos hj] at h1
  simpa using h1
theorem RowG.back {w : World} {base : Nat} {v : Value} {l : List UInt8} (h : RowG w base v l) : (convert 60 9 v).run Tryz.prog w = .ok (.string (str l)) w := by
  obtain ⟨g, cap, rfl, _, _, hc⟩ := h.parts
  exact run_convert_bytes_back w 60 9 5 ⟨g, 0, none⟩ cap l Tryz.underlying60 Tryz.underlying5 Tryz.underlying9 hc
theorem RowG.of {w : World} {base : Nat} {v : Value} {l : List UInt8} {row : Option Nat} (h : Row w base v row l) (hl : l ≠ []) : RowG w base v l := by
  obtain ⟨h1, h2⟩ := h.own
  rcases h2 with ⟨hv, hn⟩ | ⟨g, cap, cur, hv, hg, hh, r1, r2, r3, r4⟩
  · exact absurd (List.eq_nil_of_length_eq_zero hn) hl
  · exact ⟨g, cap, cur, (0, 0), hv, hg, hh, .inl rfl, r1, r2, by simpa using r3, by simpa using r4⟩
/-- Bytes laid since W0, out of a text. -/
structure LayG (W0 w : World) (v : Value) (l : List UInt8) : Prop where
  row : RowG w W0.heap.size v l
  only : Only (fun k => W0.heap.size ≤ k) W0 w
theorem LayG.more {W0 w w' : World} {v : Value} {l : List UInt8} (h : LayG W0 w v l) (ho : Only (fun _ => False) w w') : LayG W0 w' v l :=
  ⟨h.row.kept ho, h.only.trans ho (fun _ _ h => h.elim)⟩
theorem LayG.text {W0 w : World} {v : Value} {l : List UInt8} (h : LayG W0 w v l) (s : ByteArray) (hn : l.length + s.size ≤ 140737488355328) :
    ∃ v' w', (Builtin.append_ #[60, 9] 60 #[v, .string s]).run Tryz.prog w = .ok v' w' ∧ LayG W0 w' v' (l ++ bl s) := by
  obtain ⟨i0, hi, hz0, hz1, hz2⟩ := info_parts Tryz.infoByte
  obtain ⟨g, cap, cur, fz, rfl, hb, hg, hfz, hnc, hcm, hcs, htake⟩ := h.row.ex
  have hl2 : (l ++ bl s).length = l.length + s.size := by simp
  have hcl : (cells l).length = l.length := by simp [cells]
  have hcc : cells (l ++ bl s) = cells l ++ Lib.strCells s := cells_append l (bl s)
  have hml : l.length + s.size ≤ maxLen := by unfold maxLen; omega
  by_cases hroom : l.length + s.size ≤ cap
  · have hr := room_G (P := Tryz.prog) w 60 9 60 5 i0 Tryz.underlying60 Tryz.underlying9 hi hz1 g l.length cap cur fz hg hfz s hroom (by omega)
    refine ⟨_, _, hr, ⟨⟨g, cap, _, fz, by rw [hl2], hb, setRow_heap w g cur _ 5 _ hg, ?_, by omega, hcm, ?_, ?_⟩⟩, ?_⟩
    · have : (cur.toList.take l.length ++ Lib.strCells s ++ cur.toList.drop (l.length + s.size)).toArray.size = cur.size := by
        simp only [List.size_toArray, List.length_append, List.length_take, List.length_drop, Array.length_toList, Lib.strCells_length]
        omega
      rw [this]
      exact hfz
    · simp only [List.size_toArray, List.length_append, List.length_take, List.length_drop, Array.length_toList, Lib.strCells_length]
      omega
    · rw [htake, hcc]
      have e : (l ++ bl s).length = (cells l ++ Lib.strCells s).length := by rw [hl2]; simp only [List.length_append, hcl, Lib.strCells_length]
      rw [e]
      exact List.take_left
    · refine h.only.trans (S := fun k => W0.heap.size ≤ k) (Only.grown (row := some g) ⟨rfl, rfl, rfl, by simp, fun k _ hk => setRow_other w g k _ (fun e => hk (by rw [e]))⟩ (fun k hk => by cases hk; exact hb)) (fun _ _ h => h)
  · have holds : ∀ j u, (cells l)[j]? = some u → w.cell? ((⟨g, 0, none⟩ : Addr).add j) = some u := fun j u hu => by
      have hadd : (⟨g, 0, none⟩ : Addr).add j = ⟨g, j, none⟩ := by unfold Addr.add; split <;> simp_all
      rw [hadd, cell_of_row w g j cur 5 fz hg]
      rw [← htake, List.getElem?_take] at hu
      split at hu
      · simpa using hu
      · cases hu
    have hr := Lib.run_append_grow_string (P := Tryz.prog) w 60 9 60 5 i0 (.int .u8 0) Tryz.underlying60 Tryz.underlying9 hi hz0 ⟨g, 0, none⟩ l.length cap (cells l) (by rw [hz1]; simpa using hcl) holds s (by omega) (by omega) (by rw [hz2]; exact growslice_fits (by omega) (by omega))
    have hge := grownCap_ge w (l.length + s.size) cap 5
    have hcm2 : grownCap w (l.length + s.size) cap 5 ≤ maxLen := grownCap_le_maxLen w (l.length + s.size) cap 5 hml
    refine ⟨_, _, hr, ⟨⟨w.heap.size, _, _, (0, 0), by rw [hl2], h.only.size, heap_alloc_new w.drew _, .inl rfl, by omega, hcm2, ?_, ?_⟩⟩, ?_⟩
    · have hz1 : (Value.int IntKind.u8 0).cells.size = 1 := rfl
      simp only [Array.size_append, List.size_toArray, size_zeroCells, hz1, hcl, Lib.strCells_length]
      omega
    · rw [hcc]
      have e : (l ++ bl s).length = (cells l ++ Lib.strCells s).length := by rw [hl2]; simp only [List.length_append, hcl, Lib.strCells_length]
      simp only [Array.toList_append, List.append_assoc]
      rw [← List.append_assoc, e]
      exact List.take_left
    · exact h.only.trans (S := fun k => W0.heap.size ≤ k) (Only.grown (row := none) ⟨rfl, rfl, rfl, by simp, fun k hk _ => heap_alloc_old w.drew _ hk⟩ (fun k hk => by cases hk)) (fun _ _ h => h)
theorem layG_of_text {W0 w : World} (s : ByteArray) (ho : Only (fun _ => False) W0 w) (hn : s.size ≤ 140737488355328) :
    ∃ v' w', (convert 9 60 (.string s)).run Tryz.prog w = .ok v' w' ∧ LayG W0 w' v' (bl s) := by
  refine ⟨_, _, run_bytes_of_string w 9 60 5 s Tryz.underlying9 Tryz.underlying60 Tryz.underlying5, ⟨⟨w.heap.size, _, _, _, by rw [bl_len], ho.size, heap_alloc_new w.drew _, .inr (Nat.le_refl _), by rw [bl_len]; exact grownCap_ge w s.size 0 5, grownCap_le_maxLen w s.size 0 5 (by unfold maxLen; omega), ?_, ?_⟩⟩, ?_⟩
  · have := grownCap_ge w s.size 0 5
    unfold bytesRow
    simp only [Array.size_append, Array.size_map, Array.size_replicate]
    show s.size + _ = _
    omega
  · unfold bytesRow
    rw [Array.toList_append, Array.toList_map]
    have e : (bl s).length = (s.data.toList.map (fun b => Value.int .u8 (b.toNat : Int))).length := by rw [List.length_map]
    rw [e, List.take_left]
    rfl
  · exact ((ho.mono (T := fun k => W0.heap.size ≤ k) (fun _ _ h => h.elim)).trans (Only.grown (row := none) ⟨rfl, rfl, rfl, by simp, fun k hk _ => heap_alloc_old w.drew _ hk⟩ (fun k hk => by cases hk)) (fun _ _ h => h))
end Go.Proofs.YtcbdpdkmkncffaaGreatDoor

namespace Go.Proofs.YtcbdpdkmkncffaaGreatDoor
open Go.RowKit

/-- Noughts made in any world, and turned into a text there. -/
theorem zeros_at (n : Nat) (hn : n ≤ 1000) : ∃ (O : Obj), (∀ W : World, (Instr.makeSlice 60 (.int .i64 (n : Int)) (.int .i64 (n : Int))).run Tryz.prog W = .ok (.slice (some ⟨W.heap.size, 0, none⟩) n n) (W.alloc O)) ∧
    (∀ (W : World) (g : Nat) (X : World), g = W.heap.size → Only (fun _ => False) (W.alloc O) X → (convert 60 9 (.slice (some ⟨g, 0, none⟩) n n)).run Tryz.prog X = .ok (.string (str (List.replicate n 0))) X) := by
  obtain ⟨i0, hi, hz0, hz1, hz2⟩ := info_parts Tryz.infoByte
  refine ⟨.cells (madeCells (Value.int .u8 0).cells ((n : Int).toNat * i0.size)) 5, fun W => ?_, fun W g X hg hX => ?_⟩
  · have h := run_make (P := Tryz.prog) W 60 5 i0 (.int .u8 0) Tryz.underlying60 hi hz0 .i64 .i64 (n : Int) (n : Int) (by omega) (Int.le_refl _) (by rw [hz2]; omega) (by omega)
    simpa using h
  · subst hg
    obtain ⟨w', hmk, hown, hgr⟩ := run_make_full (P := Tryz.prog) W W.heap.size 60 5 i0 (.int .u8 0) 1 Tryz.underlying60 hi hz0 hz1 .i64 .i64 n (by rw [hz2]; omega) (by unfold maxLen; omega) (Nat.le_refl _)
    have h := run_make (P := Tryz.prog) W 60 5 i0 (.int .u8 0) Tryz.underlying60 hi hz0 .i64 .i64 (n : Int) (n : Int) (by omega) (Int.le_refl _) (by rw [hz2]; omega) (by omega)
    have e : w' = W.alloc (.cells (madeCells (Value.int .u8 0).cells ((n : Int).toNat * i0.size)) 5) := by
      rw [hmk] at h
      simp at h
      exact h
    subst e
    have e2 : (madeCells (Value.int .u8 0).cells (n * 1)).toList = cells (List.replicate n 0) := by
      have : (Value.int IntKind.u8 0).cells = #[.int .u8 0] := rfl
      rw [this, toList_madeCells_one]; simp [cells]
    rw [e2] at hown
    have hrow : Row (W.alloc (.cells (madeCells (Value.int .u8 0).cells ((n : Int).toNat * i0.size)) 5)) W.heap.size (.slice (some ⟨W.heap.size, 0, none⟩) n n) (some W.heap.size) (List.replicate n 0) := by
      refine ⟨?_, rfl⟩
      rw [List.length_replicate]
      exact hown
    exact bytes_back X _ _ _ _ (hrow.kept hX (fun _ _ h => h))
theorem big1 (n : Nat) (h : n < 256) : bigF 1 n = [UInt8.ofNat n] := by
  show bigF 0 (n / 256) ++ [UInt8.ofNat (n % 256)] = _
  rw [Nat.mod_eq_of_lt h]
  rfl
theorem str_app (A : List UInt8) (h : ByteArray) : str A ++ h = str (A ++ bl h) := by rw [← str_cat, str_bl]
theorem head_cat (a k v r : Int) (h : ByteArray) (l : List ByteArray) (hk : k.toNat < 256) (hv : v.toNat < 256) (hh : h.size ≤ 255) (hl : l.length ≤ 255) :
    str (bigF 8 a.toNat) ++ str (bigF 1 k.toNat) ++ str (bigF 1 v.toNat) ++ str (bigF 4 r.toNat) ++ str (bigF 1 (l.length : Int).toNat) ++ str (bigF 1 (h.size : Int).toNat) ++ h = str (Pg.head ⟨a, k, v, r, h, l⟩ ++ bl h ++ itemsL (l.take 0)) := by
  rw [Int.toNat_natCast, Int.toNat_natCast, big1 _ hk, big1 _ hv, big1 l.length (by omega), big1 h.size (by omega)]
  simp only [bl_str, str_app, Pg.head, u8, List.take_zero, itemsL_nil, List.append_nil, List.append_assoc, List.cons_append, List.nil_append]
theorem str_len {l : List UInt8} {Y : ByteArray} (h : str l = Y) : Y.size = l.length := by rw [← h]; rfl
theorem yieldsIf_load_page {ops : Array Oper} {S : World → Prop} {op : Oper} {a : Act} {v0 v1 v2 v3 v4 v5 : Value} (hw : Region.wanted op (yielded ops a.tmps) = true) (x : Operand) (ho : op.op = .load 77 x)
    (b : Nat) (hx : a.eval x = .pointer (some ⟨b, 0, none⟩)) (hS : ∀ w, S w → Pag w b v0 v1 v2 v3 v4 v5) : YieldsIf Tryz.prog ops S op (.agg #[v0, v1, v2, v3, v4, v5]) a :=
  .inl ⟨hw, fun w hw' => by
    unfold execOp
    simp only [ho, hx, Instr.loadAt, Instr.sureAddr, Sem.run_bind, Sem.run_pure, Result.andThen_ok, load_page (hS w hw')]⟩
theorem yieldsIf_load_cell {ops : Array Oper} {S : World → Prop} {op : Oper} {a : Act} {v : Value} (hw : Region.wanted op (yielded ops a.tmps) = true) (ty : TypeId) (x : Operand) (ho : op.op = .load ty x)
    (p : Addr) (hx : a.eval x = .pointer (some p)) (hS : ∀ w, S w → w.cell? p = some v) (hl : ∀ w, w.cell? p = some v → (loadVar ty p).run Tryz.prog w = .ok v w) : YieldsIf Tryz.prog ops S op v a :=
  .inl ⟨hw, fun w hw' => by
    unfold execOp
    simp only [ho, hx, Instr.loadAt, Instr.sureAddr, Sem.run_bind, Sem.run_pure, Result.andThen_ok, hl w (hS w hw')]⟩
theorem ld_int {w : World} {p : Addr} {v : Value} (h : w.cell? p = some v) : (loadVar 3 p).run Tryz.prog w = .ok v w := by simp [loadVar, go_sem, h]
theorem ld_string {w : World} {p : Addr} {v : Value} (h : w.cell? p = some v) : (loadVar 9 p).run Tryz.prog w = .ok v w := by simp [loadVar, go_sem, h]
theorem ld_strings {w : World} {p : Addr} {v : Value} (h : w.cell? p = some v) : (loadVar 75 p).run Tryz.prog w = .ok v w := by simp [loadVar, go_sem, h]
end Go.Proofs.YtcbdpdkmkncffaaGreatDoor

namespace Go.Proofs.YtcbdpdkmkncffaaGreatDoor
open Go.RowKit

theorem only_row {w wr w1 : World} {v : Value} {row : Option Nat} {l : List UInt8} (ho : Only (fun _ => False) w wr) (hr : Row wr w.heap.size v row l) {o : Obj} (h1 : Only (fun k => some k = row) (wr.alloc o) w1) : Only (fun _ => False) w w1 := by
  refine (ho.trans (Only.alloc (fun _ => False) wr o) (fun _ _ h => h)).trans h1 ?_
  intro i hi e
  have := (hr.lt i e.symm).1
  omega

theorem ret_txt {a b : ByteArray} (h : a = b) : Ending.returned (.string a) = .returned (.string b) := by rw [h]
end Go.Proofs.YtcbdpdkmkncffaaGreatDoor

namespace Go.Proofs.YtcbdpdkmkncffaaGreatDoor
open Go.RowKit

theorem bare_nil : bare [] = [] := rfl
theorem last_get (s : ByteArray) (k : Nat) (h : k < s.size) (he : k + 1 = s.size) : ∃ t, bl s = t ++ [s[k]] ∧ bl (s.extract 0 k) = t := by
  refine ⟨(bl s).take k, ?_, ?_⟩
  · have h' : k < (bl s).length := by rw [bl_len]; exact h
    have e : (bl s).take (k + 1) = (bl s).take k ++ [(bl s)[k]] := List.take_succ_eq_append_getElem h'
    rw [List.take_of_length_le (by rw [bl_len]; omega)] at e
    exact e
  · rw [ext_bl, List.drop_zero]
end Go.Proofs.YtcbdpdkmkncffaaGreatDoor

namespace Go.Proofs.YtcbdpdkmkncffaaGreatDoor
open Go.RowKit

/-- Bytes laid since W0, no more than N. -/
structure LN (W0 w : World) (v : Value) (l : List UInt8) (N : Nat) : Prop where
  row : RowG w W0.heap.size v l
  only : Only (fun _ => False) W0 w
  len : l.length ≤ N
theorem only_low {W0 w : World} (h : Only (fun k => W0.heap.size ≤ k) W0 w) : Only (fun _ => False) W0 w :=
  h.mono (fun _ hi hk => Nat.lt_irrefl _ (Nat.lt_of_lt_of_le hi hk))
theorem LN.more {W0 w w' : World} {v : Value} {l : List UInt8} {N : Nat} (h : LN W0 w v l N) (ho : Only (fun _ => False) w w') : LN W0 w' v l N := ⟨h.row.kept ho, o2 h.only ho, h.len⟩
theorem LN.le {W0 w : World} {v : Value} {l : List UInt8} {N N' : Nat} (h : LN W0 w v l N) (hN : N ≤ N') : LN W0 w v l N' := ⟨h.row, h.only, Nat.le_trans h.len hN⟩
theorem LN.text {W0 w : World} {v : Value} {l : List UInt8} {N : Nat} (h : LN W0 w v l N) (m : List UInt8) (M : Nat) (hm : m.length ≤ M) (hN : N + M ≤ 1000000000) :
    ∃ v' w', (Builtin.append_ #[60, 9] 60 #[v, .string (str m)]).run Tryz.prog w = .ok v' w' ∧ LN W0 w' v' (l ++ m) (N + M) := by
  have hl := h.len
  obtain ⟨v', w', hr, h2⟩ := LayG.text ⟨h.row, h.only.mono (fun _ _ h => h.elim)⟩ (str m) (by rw [str_size]; omega)
  rw [bl_str] at h2
  exact ⟨v', w', hr, h2.row, only_low h2.only, by rw [List.length_append]; omega⟩
theorem ln_new {W0 w : World} (m : List UInt8) (M : Nat) (hm : m.length ≤ M) (hM : M ≤ 1000000000) (ho : Only (fun _ => False) W0 w) :
    ∃ v' w', (convert 9 60 (.string (str m))).run Tryz.prog w = .ok v' w' ∧ LN W0 w' v' m M := by
  obtain ⟨v', w', hr, h2⟩ := layG_of_text (W0 := W0) (w := w) (str m) ho (by rw [str_size]; omega)
  rw [bl_str] at h2
  exact ⟨v', w', hr, h2.row, only_low h2.only, hm⟩
theorem LN.back {W0 w : World} {v : Value} {l : List UInt8} {N : Nat} (h : LN W0 w v l N) : (convert 60 9 v).run Tryz.prog w = .ok (.string (str l)) w := h.row.back
theorem load_im {w : World} {b k : Nat} {i : Im} {D : Nat} {ao : Option Addr} {cp : Nat} (h : ImAt w b k i D ao cp) : (loadVar 77 ⟨b, k + 1, none⟩).run Tryz.prog w = .ok (.agg #[.int .i64 i.body.lsn, .int .i64 i.body.kind, .int .i64 i.body.level, .int .i64 i.body.right, .string i.body.high, .slice ao i.body.items.length cp]) w := by
  have c1 := h.c1
  have c2 := h.c2
  have c3 := h.c3
  have c4 := h.c4
  have c5 := h.c5
  have c6 := h.c6
  go_simp
theorem yieldsIf_load_im {ops : Array Oper} {S : World → Prop} {op : Oper} {a : Act} {b k : Nat} {i : Im} {D : Nat} {ao : Option Addr} {cp : Nat} (hw : Region.wanted op (yielded ops a.tmps) = true) (x : Operand) (ho : op.op = .load 77 x)
    (hx : a.eval x = .pointer (some ⟨b, k + 1, none⟩)) (hS : ∀ w, S w → ImAt w b k i D ao cp) : YieldsIf Tryz.prog ops S op (.agg #[.int .i64 i.body.lsn, .int .i64 i.body.kind, .int .i64 i.body.level, .int .i64 i.body.right, .string i.body.high, .slice ao i.body.items.length cp]) a :=
  .inl ⟨hw, fun w hw' => by
    unfold execOp
    simp only [ho, hx, Instr.loadAt, Instr.sureAddr, Sem.run_bind, Sem.run_pure, Result.andThen_ok, load_im (hS w hw')]⟩
theorem ld_ints {w : World} {p : Addr} {v : Value} (h : w.cell? p = some v) : (loadVar 32 p).run Tryz.prog w = .ok v w := by simp [loadVar, go_sem, h]
theorem ld_kind {w : World} {p : Addr} {v : Value} (h : w.cell? p = some v) : (loadVar 31 p).run Tryz.prog w = .ok v w := by simp [loadVar, go_sem, h]
theorem ld_images {w : World} {p : Addr} {v : Value} (h : w.cell? p = some v) : (loadVar 33 p).run Tryz.prog w = .ok v w := by simp [loadVar, go_sem, h]
theorem ld_oweds {w : World} {p : Addr} {v : Value} (h : w.cell? p = some v) : (loadVar 34 p).run Tryz.prog w = .ok v w := by simp [loadVar, go_sem, h]
theorem ld_beguns {w : World} {p : Addr} {v : Value} (h : w.cell? p = some v) : (loadVar 35 p).run Tryz.prog w = .ok v w := by simp [loadVar, go_sem, h]
end Go.Proofs.YtcbdpdkmkncffaaGreatDoor
