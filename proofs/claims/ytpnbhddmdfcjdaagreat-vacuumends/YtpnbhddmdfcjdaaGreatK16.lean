/- Parts. -/
import Derived.Test.YtpnbhddmdfcjdaaGreatK15
set_option maxRecDepth 100000
namespace Go.Proofs.YtpnbhddmdfcjdaaGreat
open Go.RowKit
/-- The boxes of what a node says and of an entry. -/
theorem ce_new (w : World) (es ks : Value) (h e : En) : Cv ((w.alloc (.cells #[es, ks, .string h.key, .int .i64 h.page, .int .i64 h.slot] 200)).alloc (.cells #[.string e.key, .int .i64 e.page, .int .i64 e.slot] 74)) w.heap.size es ks h ∧ Ev ((w.alloc (.cells #[es, ks, .string h.key, .int .i64 h.page, .int .i64 h.slot] 200)).alloc (.cells #[.string e.key, .int .i64 e.page, .int .i64 e.slot] 74)) (w.heap.size + 1) e ∧ Only (fun _ => False) w ((w.alloc (.cells #[es, ks, .string h.key, .int .i64 h.page, .int .i64 h.slot] 200)).alloc (.cells #[.string e.key, .int .i64 e.page, .int .i64 e.slot] 74)) := by
  refine ⟨(Cv.new w es ks h).more (onlyA _ _), ?_, o2 (onlyA _ _) (onlyA _ _)⟩
  have e1 := Ev.new (w.alloc (.cells #[es, ks, .string h.key, .int .i64 h.page, .int .i64 h.slot] 200)) e
  rw [World.size_alloc] at e1
  exact e1
end Go.Proofs.YtpnbhddmdfcjdaaGreat
