/- The document's Reader over the records' base. -/
import Derived.Test.YthhlmhghiknnkaaRCanon
import Derived.Test.YthhlmhghiknnkaaPMem
import Derived.Deep.LoopGhost
namespace Go.Proofs.Ythhlmhghiknnkaa
open Go.RowKit

/-- The document's Reader in block x. -/
structure XR (w : World) (x : Nat) (s : ByteArray) (p : Nat) (y : Int) : Prop where
  c0 : w.cell? ⟨x, 0, none⟩ = some (.string s)
  c1 : w.cell? ⟨x, 1, none⟩ = some (.int .i64 (p : Int))
  c2 : w.cell? ⟨x, 2, none⟩ = some (.int .i64 y)
  f0 : w.frozen? ⟨x, 0, none⟩ = false
  f1 : w.frozen? ⟨x, 1, none⟩ = false
  f2 : w.frozen? ⟨x, 2, none⟩ = false
  lt : x < w.heap.size
theorem XR.kept {S : Nat → Prop} {w w' : World} {x : Nat} {s : ByteArray} {p : Nat} {y : Int} (h : XR w x s p y) (ho : Only S w w') (hr : ¬ S x) : XR w' x s p y :=
  ⟨(ho.cell (p := ⟨x, 0, none⟩) h.lt hr).trans h.c0, (ho.cell (p := ⟨x, 1, none⟩) h.lt hr).trans h.c1, (ho.cell (p := ⟨x, 2, none⟩) h.lt hr).trans h.c2, (ho.frozen (p := ⟨x, 0, none⟩) h.lt hr).trans h.f0, (ho.frozen (p := ⟨x, 1, none⟩) h.lt hr).trans h.f1, (ho.frozen (p := ⟨x, 2, none⟩) h.lt hr).trans h.f2, Nat.lt_of_lt_of_le h.lt ho.size⟩
theorem XR.set1 {w : World} {x : Nat} {s : ByteArray} {p : Nat} {y : Int} (h : XR w x s p y) (q : Nat) : XR (w.setCell ⟨x, 1, none⟩ (.int .i64 (q : Int))) x s q y :=
  ⟨(World.cell?_setCell_other _ _ _ _ (by simp)).trans h.c0, World.cell?_setCell_same _ _ _ h.c1, (World.cell?_setCell_other _ _ _ _ (by simp)).trans h.c2, by simpa using h.f0, by simpa using h.f1, by simpa using h.f2, by simpa using h.lt⟩
theorem XR.set2 {w : World} {x : Nat} {s : ByteArray} {p : Nat} {y : Int} (h : XR w x s p y) (q : Int) : XR (w.setCell ⟨x, 2, none⟩ (.int .i64 q)) x s p q :=
  ⟨(World.cell?_setCell_other _ _ _ _ (by simp)).trans h.c0, (World.cell?_setCell_other _ _ _ _ (by simp)).trans h.c1, World.cell?_setCell_same _ _ _ h.c2, by simpa using h.f0, by simpa using h.f1, by simpa using h.f2, by simpa using h.lt⟩
theorem XR.new (w : World) (s : ByteArray) : XR (w.alloc (.cells #[.string s, .int .i64 0, .int .i64 0] 72)) w.heap.size s 0 0 :=
  ⟨by simp, by simp, by simp, by simp, by simp, by simp, by simp⟩
theorem XR.drew {w : World} {x : Nat} {s : ByteArray} {p : Nat} {y : Int} (h : XR w x s p y) : XR w.drew x s p y := h.kept (Only.drew (fun _ => False) w) (fun h => h)

theorem wrong_any (w : World) (x : Nat) (s : ByteArray) (p : Nat) (y z : Int) (h : XR w x s p y) :
    Calls Try.prog 70 #[.pointer (some ⟨x, 0, none⟩), .int .i64 z] w fun e w' => e = .returned (.int .i64 0) ∧ w' = w.setCell ⟨x, 2, none⟩ (.int .i64 z) := by
  obtain ⟨c0, c1, c2, f0, f1, f2, hl⟩ := h
  go_enter Try.func70, Try.ntmps70
  go_wp2
  go_ret
  exact ⟨rfl, rfl⟩

theorem xnum_err (w : World) (x : Nat) (s : ByteArray) (p : Nat) (y z : Int) (h : XR w x s p y) (hy : (y != 0) = true) :
    Calls Try.prog 44 #[.pointer (some ⟨x, 0, none⟩), .int .i64 z] w fun e w' => e = .returned (.int .i64 0) ∧ w' = w := by
  obtain ⟨c0, c1, c2, f0, f1, f2, hl⟩ := h
  go_enter Try.func44, Try.ntmps44
  go_wp2
  go_ret
  exact ⟨rfl, rfl⟩

theorem xend_err (w : World) (x : Nat) (s : ByteArray) (p : Nat) (y : Int) (h : XR w x s p y) (hy : (y == 0) = false) :
    Calls Try.prog 45 #[.pointer (some ⟨x, 0, none⟩)] w fun e w' => e = .returned (.int .i64 y) ∧ w' = w.drew := by
  obtain ⟨c0, c1, c2, f0, f1, f2, hl⟩ := h
  go_enter Try.func45, Try.ntmps45
  go_wp2
  go_region
  go_wp2
  go_ret
  exact ⟨rfl, rfl⟩
theorem xend_ok (w : World) (x : Nat) (s : ByteArray) (p : Nat) (h : XR w x s p 0) (hp : p ≤ s.size) :
    Calls Try.prog 45 #[.pointer (some ⟨x, 0, none⟩)] w fun e w' => e = .returned (.int .i64 (if s.size - p = 0 then 0 else 12)) ∧ w' = w.drew := by
  obtain ⟨c0, c1, c2, f0, f1, f2, hl⟩ := h
  by_cases hz : p < s.size
  · rw [if_neg (by omega)]
    go_enter Try.func45, Try.ntmps45
    go_wp2
    go_region
    go_wp2
    go_ret
    exact ⟨rfl, rfl⟩
  · rw [if_pos (by omega)]
    go_enter Try.func45, Try.ntmps45
    go_wp2
    go_region
    go_wp2
    go_ret
    exact ⟨rfl, rfl⟩
end Go.Proofs.Ythhlmhghiknnkaa
