/- What the document's own Num and Text lay, over records' base. -/
import Derived.Test.YtpbpamhlenogoaaRWr
import Derived.Test.YtpbpamhlenogoaaPMem
namespace Go.Proofs.Ytpbpamhlenogoaa
open Go.RowKit

theorem only_row {w wr w1 : World} {v : Value} {row : Option Nat} {l : List UInt8} (ho : Only (fun _ => False) w wr) (hr : Row wr w.heap.size v row l) {o : Obj} (h1 : Only (fun k => some k = row) (wr.alloc o) w1) : Only (fun _ => False) w w1 := by
  refine (ho.trans (Only.alloc (fun _ => False) wr o) (fun _ _ h => h)).trans h1 ?_
  intro i hi e
  have := (hr.lt i e.symm).1
  omega

end Go.Proofs.Ytpbpamhlenogoaa
