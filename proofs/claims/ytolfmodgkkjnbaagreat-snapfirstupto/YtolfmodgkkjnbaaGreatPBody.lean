/- What body and Encode do. -/
import Derived.Test.YtolfmodgkkjnbaaGreatPCat
import Derived.Deep.RegionWith
import Derived.Deep.DeepCutAuto
namespace Go.Proofs.YtolfmodgkkjnbaaGreat
open Go.RowKit

/-- Bytes laid since W0, in blocks of their own. -/
structure Lay (W0 w : World) (v : Value) (l : List UInt8) : Prop where
  row : ∃ row, Row w W0.heap.size v row l
  only : Only (fun k => W0.heap.size ≤ k) W0 w
theorem Lay.more {W0 w w' : World} {v : Value} {l : List UInt8} (h : Lay W0 w v l) (ho : Only (fun _ => False) w w') : Lay W0 w' v l := by
  obtain ⟨row, hr⟩ := h.row
  exact ⟨⟨row, hr.kept ho (fun _ _ h => h)⟩, h.only.trans ho (fun _ _ h => h.elim)⟩
theorem Lay.text {W0 w : World} {v : Value} {l : List UInt8} (h : Lay W0 w v l) (s : ByteArray) (hn : l.length + s.size ≤ 158329674399744) :
    ∃ v' w', (Builtin.append_ #[68, 9] 68 #[v, .string s]).run Tryz.prog w = .ok v' w' ∧ Lay W0 w' v' (l ++ bl s) := by
  obtain ⟨i0, hi, hz0, hz1, hz2⟩ := info_parts Tryz.infoByte
  obtain ⟨row, hr⟩ := h.row
  obtain ⟨v', w', hrun, h2, h3, _⟩ := append_string (P := Tryz.prog) w W0.heap.size 68 9 68 5 i0 Tryz.underlying68 Tryz.underlying9 hi hz0 hz1 hz2 v l.length (cells l) hr.own s hn h.only.size
  refine ⟨v', w', hrun, ⟨⟨v'.ownBlock, ?_, rfl⟩, h.only.trans (Only.grown (S := fun k => W0.heap.size ≤ k) h3 (fun k hk => (World.ownsRow.lt hr.own k hk).1)) (fun _ _ h => h)⟩⟩
  have e : l.length + s.size = (l ++ bl s).length := by simp
  rw [cells_append, ← e]
  exact h2
theorem Lay.two {W0 w : World} {v : Value} {l : List UInt8} (h : Lay W0 w v l) (x y : Int) (hx0 : 0 ≤ x) (hx1 : x < 256) (hy0 : 0 ≤ y) (hy1 : y < 256) (hn : l.length + 2 ≤ 158329674399744) :
    ∃ v' w', (Builtin.append_ #[68, 68] 68 #[v, .slice (some ⟨w.heap.size, 0, none⟩) 2 2]).run Tryz.prog (w.alloc (.cells #[.int .u8 x, .int .u8 y] 5)) = .ok v' w' ∧ Lay W0 w' v' (l ++ [u8 x, u8 y]) := by
  obtain ⟨i0, hi, hz0, hz1, hz2⟩ := info_parts Tryz.infoByte
  have h' := h.more (onlyA w (.cells #[.int .u8 x, .int .u8 y] 5))
  obtain ⟨row, hr⟩ := h'.row
  have ex := u8_to x hx0 hx1
  have ey := u8_to y hy0 hy1
  obtain ⟨v', w', hrun, h2, h3, _⟩ := append_bytes (P := Tryz.prog) _ W0.heap.size 68 68 5 i0 Tryz.underlying68 hi hz0 hz1 hz2 v l.length (cells l) hr.own ⟨w.heap.size, 0, none⟩ 2 2 (cells [u8 x, u8 y]) rfl
    (fun j u hu => by
      match j, hu with
      | 0, hu => simp [cells] at hu; rw [← hu, add_at, ex]; simp
      | 1, hu => simp [cells] at hu; rw [← hu, add_at, ey]; simp)
    (by intro u hu; simp [cells] at hu; rcases hu with rfl | rfl <;> rfl) hn (by decide) h'.only.size
  refine ⟨v', w', hrun, ⟨⟨v'.ownBlock, ?_, rfl⟩, h'.only.trans (Only.grown (S := fun k => W0.heap.size ≤ k) h3 (fun k hk => (World.ownsRow.lt hr.own k hk).1)) (fun _ _ h => h)⟩⟩
  have e : l.length + 2 = (l ++ [u8 x, u8 y]).length := by simp
  rw [cells_append, ← e]
  exact h2
theorem only_below {w w' : World} (hb : Below w.heap.size w w') : Only (fun _ => False) w w' := ⟨hb.os, hb.tape, hb.output, hb.size, fun k hk _ => hb.block k hk⟩
theorem cat_eq (a : List UInt8) (s : ByteArray) : (⟨a.toArray⟩ : ByteArray) ++ s = ⟨(a ++ s.data.toList).toArray⟩ := by
  obtain ⟨⟨l⟩⟩ := s
  apply ByteArray.ext
  simp
set_option maxRecDepth 100000 in
theorem str_cat (a b : List UInt8) : str a ++ str b = str (a ++ b) := cat_eq a ⟨b.toArray⟩
theorem rep_zero (c : Nat) : Lib.repeatL (⟨#[0]⟩ : ByteArray).data.toList c = List.replicate c 0 := by
  induction c with
  | zero => rfl
  | succ c ih => rw [Lib.repeatL, ih, List.replicate_succ]; rfl
theorem lay_new {W0 w1 : World} {n : Nat} {v : Value} (hz : W0.heap.size = n) (hw : w1.ownsRow n 5 1 v 0 []) (hg : W0.grownBy w1 none) : Lay W0 w1 v [] := by
  subst hz
  exact ⟨⟨v.ownBlock, hw, rfl⟩, Only.grown hg (fun k hk => by cases hk)⟩
theorem size_conv (wr : World) (a k v r : Int) (h : ByteArray) (B cp : Nat) (ao : Option Addr) (l : List ByteArray) (hS : Strs wr B ao l) (hh : h.size ≤ 255) (hl : l.length ≤ 255) (u : Value) (X : ByteArray)
    (hcv : ∀ W, Only (fun _ => False) wr W → (convert 68 9 u).run Tryz.prog W = .ok (.string X) W) (N : Nat) (hN : 20 + h.size + isz l = N) (W : World) (hW : Only (fun _ => False) wr W) :
    Calls Tryz.prog 113 #[.agg #[.int .i64 a, .int .i64 k, .int .i64 v, .int .i64 r, .string h, .slice ao l.length cp]] W fun e w' => e = .returned (.int .i64 (N : Int)) ∧ (convert 68 9 u).run Tryz.prog w' = .ok (.string X) w' ∧ Hid (Only (fun _ => False) wr w') := by
  have h1 := psize_any W a k v r h B cp ao l (hS.more hW) (by omega)
  have h2 : wrap64 (20 + h.size + isz l) = (N : Int) := by
    rw [w64_few hS.size (by omega) hl]
    omega
  rw [h2] at h1
  exact h1.mono (fun e w' hx => ⟨hx.1, hcv _ (o2 hW hx.2), o2 hW hx.2⟩)
theorem rep_conv (wr : World) (u : Value) (X : ByteArray) (hcv : ∀ W, Only (fun _ => False) wr W → (convert 68 9 u).run Tryz.prog W = .ok (.string X) W) (c : Nat) (hc : c ≤ 512) (W : World) (hW : Only (fun _ => False) wr W) :
    Calls Tryz.prog 54 #[.string ⟨#[0]⟩, .int .i64 (c : Int)] W fun e w' => e = .returned (.string (str (List.replicate c 0))) ∧ (convert 68 9 u).run Tryz.prog w' = .ok (.string X) w' ∧ Hid (Only (fun _ => False) wr w') := by
  have e1 : (⟨#[0]⟩ : ByteArray).size = 1 := rfl
  have h1 := Tryz.strings_Repeat ⟨#[0]⟩ c W (by omega) (by rw [e1]; omega)
  refine Calls.mono h1 ?_
  rintro e w' ⟨rfl, hb⟩
  refine ⟨?_, hcv _ (o2 hW (only_below hb)), o2 hW (only_below hb)⟩
  rw [rep_zero]
  rfl
end Go.Proofs.YtolfmodgkkjnbaaGreat
