/- Records that are the same. -/
import Derived.Test.YtmhjmnmhbndlcaaGreatDoorRSameM
namespace Go.Proofs.YtmhjmnmhbndlcaaGreatDoor
open Go.RowKit

theorem rc_ext {a b : Rc} (h0 : a.lsn = b.lsn) (h1 : a.prev = b.prev) (h2 : a.next = b.next) (h3 : a.kind = b.kind) (h4 : a.xid = b.xid) (h5 : a.page = b.page) (h6 : a.slot = b.slot) (h7 : a.old = b.old) (h8 : a.new = b.new) (h9 : a.redo = b.redo) (h10 : a.data = b.data) (h11 : a.slots = b.slots) (h12 : a.more = b.more) (h13 : a.images = b.images) (h14 : a.pages = b.pages) (h15 : a.txns = b.txns) : a = b := by
  obtain ⟨_, _, _, _, _, _, _, _, _, _, _, _, _, _, _, _⟩ := a
  obtain ⟨_, _, _, _, _, _, _, _, _, _, _, _, _, _, _, _⟩ := b
  simp only at h0 h1 h2 h3 h4 h5 h6 h7 h8 h9 h10 h11 h12 h13 h14 h15
  subst h0 h1 h2 h3 h4 h5 h6 h7 h8 h9 h10 h11 h12 h13 h14 h15
  rfl
theorem two_boxes (w : World) (a b : Rc) (L M : Loc) : ∃ W, (w.alloc (.cells (a.cells L) 28)).alloc (.cells (b.cells M) 28) = W ∧ Bx W w.heap.size a L ∧ Bx W (w.heap.size + 1) b M ∧ Only (fun _ => False) w W := by
  refine ⟨_, rfl, (Bx.new w a L).more (onlyA _ _), ?_, o2 (onlyA _ _) (onlyA _ _)⟩
  have h := Bx.new (w.alloc (.cells (a.cells L) 28)) b M
  simpa using h
end Go.Proofs.YtmhjmnmhbndlcaaGreatDoor
