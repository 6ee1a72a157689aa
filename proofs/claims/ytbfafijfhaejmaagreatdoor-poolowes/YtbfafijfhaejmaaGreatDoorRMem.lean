/- A Writer and a Reader in memory; sevens. -/
import Derived.Test.YtbfafijfhaejmaaGreatDoorPBits
import Derived.Lib.IndexBytes
namespace Go.Proofs.YtbfafijfhaejmaaGreatDoor
open Go.RowKit

/-- The Writer in block b, whose bytes lie in block row. -/
structure Wr (w : World) (b : Nat) (row : Option Nat) (l : List UInt8) : Prop where
  ex : ∃ v, w.cell? ⟨b, 0, none⟩ = some v ∧ Row w (b + 1) v row l
  fz : w.frozen? ⟨b, 0, none⟩ = false
  lt : b < w.heap.size
/-- The Reader in block r. -/
structure Rd (w : World) (r : Nat) (s : ByteArray) (x : Int) : Prop where
  c0 : w.cell? ⟨r, 0, none⟩ = some (.string s)
  c1 : w.cell? ⟨r, 1, none⟩ = some (.int .i64 x)
  f0 : w.frozen? ⟨r, 0, none⟩ = false
  f1 : w.frozen? ⟨r, 1, none⟩ = false
  lt : r < w.heap.size
theorem Wr.kept {S : Nat → Prop} {w w' : World} {b : Nat} {row : Option Nat} {l : List UInt8} (h : Wr w b row l) (ho : Only S w w') (hb : ¬ S b) (hS : ∀ k, row = some k → ¬ S k) : Wr w' b row l := by
  obtain ⟨⟨v, hc, hr⟩, hf, hl⟩ := h
  exact ⟨⟨v, (ho.cell (p := ⟨b, 0, none⟩) hl hb).trans hc, hr.kept ho hS⟩, (ho.frozen (p := ⟨b, 0, none⟩) hl hb).trans hf, Nat.lt_of_lt_of_le hl ho.size⟩
theorem Wr.rowLt {w : World} {b : Nat} {row : Option Nat} {l : List UInt8} (h : Wr w b row l) : ∀ k, row = some k → b < k ∧ k < w.heap.size := by
  obtain ⟨v, _, hr⟩ := h.ex
  intro k hk
  have := hr.lt k hk
  omega
theorem Rd.kept {S : Nat → Prop} {w w' : World} {r : Nat} {s : ByteArray} {x : Int} (h : Rd w r s x) (ho : Only S w w') (hr : ¬ S r) : Rd w' r s x :=
  ⟨(ho.cell (p := ⟨r, 0, none⟩) h.lt hr).trans h.c0, (ho.cell (p := ⟨r, 1, none⟩) h.lt hr).trans h.c1, (ho.frozen (p := ⟨r, 0, none⟩) h.lt hr).trans h.f0, (ho.frozen (p := ⟨r, 1, none⟩) h.lt hr).trans h.f1, Nat.lt_of_lt_of_le h.lt ho.size⟩
/-- A Writer in block b has laid more. -/
structure WGro (w w' : World) (b : Nat) (row row' : Option Nat) : Prop where
  only : Only (fun k => k = b ∨ some k = row) w w'
  new : row' = row ∨ ∃ g, row' = some g ∧ w.heap.size ≤ g
theorem WGro.refl (w : World) (b : Nat) (row : Option Nat) : WGro w w b row row := ⟨Only.refl _ _, .inl rfl⟩
theorem WGro.trans {a b c : World} {B : Nat} {r0 r1 r2 : Option Nat} (h : WGro a b B r0 r1) (k : WGro b c B r1 r2) : WGro a c B r0 r2 := by
  refine ⟨h.only.trans k.only ?_, ?_⟩
  · intro i hi ht
    rcases ht with ht | ht
    · exact .inl ht
    · rcases h.new with e | ⟨g, e, hg⟩
      · rw [← e]; exact .inr ht
      · rw [e] at ht; injection ht with ht; omega
  · rcases k.new with e | ⟨g, e, hg⟩
    · rw [e]; exact h.new
    · exact .inr ⟨g, e, Nat.le_trans h.only.size hg⟩
theorem Gro.wgro {w w' : World} {row row' : Option Nat} (h : Gro w w' row row') (b : Nat) : WGro w w' b row row' := ⟨h.only.mono (fun _ _ => .inr), h.new⟩
theorem WGro.store {w w' : World} {b : Nat} {row row' : Option Nat} (h : WGro w w' b row row') (v : Value) : WGro w (w'.setCell ⟨b, 0, none⟩ v) b row row' :=
  ⟨h.only.trans (Only.setCell w' ⟨b, 0, none⟩ v rfl) (fun _ _ e => .inl e) (T := fun k => k = b), h.new⟩
theorem WGro.alloc (w : World) (o : Obj) (b : Nat) (row : Option Nat) : WGro w (w.alloc o) b row row := (Gro.alloc w o row).wgro b
theorem Wr.stored {w : World} {b : Nat} {row : Option Nat} {l : List UInt8} {u v : Value} (hc : w.cell? ⟨b, 0, none⟩ = some u) (hf : w.frozen? ⟨b, 0, none⟩ = false) (hr : Row w (b + 1) v row l) : Wr (w.setCell ⟨b, 0, none⟩ v) b row l := by
  have hb : b < w.heap.size := World.block_lt_of_cell? w ⟨b, 0, none⟩ hc
  refine ⟨⟨v, World.cell?_setCell_same w ⟨b, 0, none⟩ v hc, hr.kept (Only.setCell (S := fun k => k = b) w ⟨b, 0, none⟩ v rfl) ?_⟩, by simpa using hf, by simpa using hb⟩
  intro k hk e
  have := hr.lt k hk
  omega
theorem Rd.set0 {w : World} {r : Nat} {s : ByteArray} {x : Int} (h : Rd w r s x) (t : ByteArray) : Rd (w.setCell ⟨r, 0, none⟩ (.string t)) r t x :=
  ⟨World.cell?_setCell_same _ _ _ h.c0, (World.cell?_setCell_other _ _ _ _ (by simp)).trans h.c1, by simpa using h.f0, by simpa using h.f1, by simpa using h.lt⟩
theorem Rd.set1 {w : World} {r : Nat} {s : ByteArray} {x : Int} (h : Rd w r s x) (y : Int) : Rd (w.setCell ⟨r, 1, none⟩ (.int .i64 y)) r s y :=
  ⟨(World.cell?_setCell_other _ _ _ _ (by simp)).trans h.c0, World.cell?_setCell_same _ _ _ h.c1, by simpa using h.f0, by simpa using h.f1, by simpa using h.lt⟩
theorem Wr.new (w : World) : Wr (w.alloc (.cells #[.slice none 0 0] 227)) w.heap.size none [] :=
  ⟨⟨.slice none 0 0, by simp, ⟨World.ownsRow_nil _ _ _ _, rfl⟩⟩, by simp, by simp⟩
theorem Wr.alloc {w : World} {b : Nat} {row : Option Nat} {l : List UInt8} (h : Wr w b row l) (o : Obj) : Wr (w.alloc o) b row l := h.kept (Only.alloc (fun _ => False) w o) (fun h => h) (fun _ _ h => h)
theorem Rd.alloc {w : World} {r : Nat} {s : ByteArray} {x : Int} (h : Rd w r s x) (o : Obj) : Rd (w.alloc o) r s x := h.kept (Only.alloc (fun _ => False) w o) (fun h => h)
/-- A Writer in block b and a Reader in block r, both made since w; of what was there in w nothing has changed. -/
structure Pair (w w' : World) (b r : Nat) (row : Option Nat) (l : List UInt8) (s : ByteArray) (x : Int) : Prop where
  wr : Wr w' b row l
  rd : Rd w' r s x
  only : Only (fun _ => False) w w'
  ne : b ≠ r
  rowNe : row ≠ some r
  rowGe : ∀ k, row = some k → w.heap.size ≤ k
  bGe : w.heap.size ≤ b
  rGe : w.heap.size ≤ r
theorem Pair.lay {w w1 w2 : World} {b r : Nat} {row row2 : Option Nat} {l l2 : List UInt8} {s : ByteArray} {x : Int} (h : Pair w w1 b r row l s x) (hW : Wr w2 b row2 l2) (hg : WGro w1 w2 b row row2) : Pair w w2 b r row2 l2 s x := by
  have hs := h.only.size
  refine ⟨hW, h.rd.kept hg.only ?_, h.only.trans hg.only ?_, h.ne, ?_, ?_, h.bGe, h.rGe⟩
  · rintro (e | e)
    · exact h.ne e.symm
    · exact h.rowNe e.symm
  · rintro i hi (e | e)
    · have := h.bGe; omega
    · have := h.rowGe i e.symm; omega
  · rcases hg.new with e | ⟨g, e, hg2⟩
    · rw [e]; exact h.rowNe
    · rw [e]; intro e2; injection e2 with e2; have := h.rd.lt; omega
  · rcases hg.new with e | ⟨g, e, hg2⟩
    · rw [e]; exact h.rowGe
    · rw [e]; intro k e2; injection e2 with e2; omega
theorem Pair.take {w w1 w2 : World} {b r : Nat} {row : Option Nat} {l : List UInt8} {s s2 : ByteArray} {x x2 : Int} (h : Pair w w1 b r row l s x) (hR : Rd w2 r s2 x2) (ho : Only (fun k => k = r) w1 w2) : Pair w w2 b r row l s2 x2 := by
  refine ⟨h.wr.kept ho h.ne ?_, hR, h.only.trans ho ?_, h.ne, h.rowNe, h.rowGe, h.bGe, h.rGe⟩
  · rintro k e rfl
    exact h.rowNe e
  · rintro i hi rfl
    have := h.rGe; omega
theorem Pair.more {w w1 w2 : World} {b r : Nat} {row : Option Nat} {l : List UInt8} {s : ByteArray} {x : Int} (h : Pair w w1 b r row l s x) (ho : Only (fun _ => False) w1 w2) : Pair w w2 b r row l s x :=
  ⟨h.wr.kept ho (fun h => h) (fun _ _ h => h), h.rd.kept ho (fun h => h), h.only.trans ho (fun _ _ h => h), h.ne, h.rowNe, h.rowGe, h.bGe, h.rGe⟩
/-- The sevens of each number; one below 0 counts as 0. -/
def nums (zs : List Int) : List UInt8 := (zs.map fun z => sev z.toNat).flatten
theorem nums_snoc (zs : List Int) (k : Nat) (h : k < zs.length) : nums (zs.take (k + 1)) = nums (zs.take k) ++ sev (zs.getD k 0).toNat := by
  have e : zs.getD k 0 = zs[k] := by simp [List.getD, List.getElem?_eq_getElem h]
  rw [List.take_succ_eq_append_getElem h, e]
  unfold nums
  rw [List.map_append, List.flatten_append]
  simp
theorem nums_len (zs : List Int) : (nums zs).length ≤ 10 * zs.length := by
  induction zs with
  | nil => simp [nums]
  | cons z zs ih =>
    have h : (sev z.toNat).length ≤ 10 := sevF_len 9 z.toNat
    simp only [nums, List.map_cons, List.flatten_cons, List.length_append, List.length_cons] at ih ⊢
    omega
theorem new_any (w : World) :
    Calls Tryz.prog 159 #[] w fun e w' => e = .returned (.pointer (some ⟨w.heap.size, 0, none⟩)) ∧ w' = w.alloc (.cells #[.slice none 0 0] 227) := by
  go_enter Tryz.func159, Tryz.ntmps159
  go_wp2
  go_ret
  exact ⟨rfl, rfl⟩
end Go.Proofs.YtbfafijfhaejmaaGreatDoor
