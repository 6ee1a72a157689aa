/- The document's Reader over the records' base. -/
import Derived.Test.YtpbpamhlenogoaaRCanon
import Derived.Test.YtpbpamhlenogoaaPMem
import Derived.Deep.LoopGhost
namespace Go.Proofs.Ytpbpamhlenogoaa
open Go.RowKit

/-- The document's Reader in block x. -/
structure XR (w : World) (x : Nat) (s : ByteArray) (p : Nat) (y : Int) : Prop where
  c0 : w.cell? ⟨x, 0, none⟩ = some (.string s)
  c1 : w.cell? ⟨x, 1, none⟩ = some (.int .i64 (p : Int))
  c2 : w.cell? ⟨x, 2, none⟩ = some (.int .i64 y)
  f0 : w.frozen? ⟨x, 0, none⟩ = false
  f1 : w.frozen? ⟨x, 1, none⟩ = false
  f2 : w.frozen? ⟨x, 2, none⟩ = false
  lt : x < w.heap.size
theorem XR.kept {S : Nat → Prop} {w w' : World} {x : Nat} {s : ByteArray} {p : Nat} {y : Int} (h : XR w x s p y) (ho : Only S w w') (hr : ¬ S x) : XR w' x s p y :=
  ⟨(ho.cell (p := ⟨x, 0, none⟩) h.lt hr).trans h.c0, (ho.cell (p := ⟨x, 1, none⟩) h.lt hr).trans h.c1, (ho.cell (p := ⟨x, 2, none⟩) h.lt hr).trans h.c2, (ho.frozen (p := ⟨x, 0, none⟩) h.lt hr).trans h.f0, (ho.frozen (p := ⟨x, 1, none⟩) h.lt hr).trans h.f1, (ho.frozen (p := ⟨x, 2, none⟩) h.lt hr).trans h.f2, Nat.lt_of_lt_of_le h.lt ho.size⟩
theorem XR.set1 {w : World} {x : Nat} {s : ByteArray} {p : Nat} {y : Int} (h : XR w x s p y) (q : Nat) : XR (w.setCell ⟨x, 1, none⟩ (.int .i64 (q : Int))) x s q y :=
  ⟨(World.cell?_setCell_other _ _ _ _ (by simp)).trans h.c0, World.cell?_setCell_same _ _ _ h.c1, (World.cell?_setCell_other _ _ _ _ (by simp)).trans h.c2, by simpa using h.f0, by simpa using h.f1, by simpa using h.f2, by simpa using h.lt⟩
theorem XR.set2 {w : World} {x : Nat} {s : ByteArray} {p : Nat} {y : Int} (h : XR w x s p y) (q : Int) : XR (w.setCell ⟨x, 2, none⟩ (.int .i64 q)) x s p q :=
  ⟨(World.cell?_setCell_other _ _ _ _ (by simp)).trans h.c0, (World.cell?_setCell_other _ _ _ _ (by simp)).trans h.c1, World.cell?_setCell_same _ _ _ h.c2, by simpa using h.f0, by simpa using h.f1, by simpa using h.f2, by simpa using h.lt⟩
theorem XR.drew {w : World} {x : Nat} {s : ByteArray} {p : Nat} {y : Int} (h : XR w x s p y) : XR w.drew x s p y := h.kept (Only.drew (fun _ => False) w) (fun h => h)

end Go.Proofs.Ytpbpamhlenogoaa
