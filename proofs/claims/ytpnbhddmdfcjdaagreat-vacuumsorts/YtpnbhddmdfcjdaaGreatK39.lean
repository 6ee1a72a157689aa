/- Parts. -/
import Derived.Test.YtpnbhddmdfcjdaaGreatK37
import Derived.Test.YtpnbhddmdfcjdaaGreatK38
set_option maxRecDepth 100000
namespace Go.Proofs.YtpnbhddmdfcjdaaGreat
open Go.RowKit
/-- Whether a record of a kind changes its page. -/
def ownK (k : Int) : Bool := decide (k = 1 ∨ k = 2 ∨ k = 3 ∨ k = 4 ∨ k = 6 ∨ k = 7 ∨ k = 8 ∨ k = 9 ∨ k = 10 ∨ k = 11)
end Go.Proofs.YtpnbhddmdfcjdaaGreat
