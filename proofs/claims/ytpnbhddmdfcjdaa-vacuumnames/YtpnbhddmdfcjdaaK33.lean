/- Parts. -/
import Derived.Test.YtpnbhddmdfcjdaaK27
import Derived.Sort.Walk0
set_option maxRecDepth 100000
namespace Go.Proofs.Ytpnbhddmdfcjdaa
open Go.RowKit
/-- An entry as plain data. -/
structure En where
  key : ByteArray
  page : Int
  slot : Int
end Go.Proofs.Ytpnbhddmdfcjdaa
