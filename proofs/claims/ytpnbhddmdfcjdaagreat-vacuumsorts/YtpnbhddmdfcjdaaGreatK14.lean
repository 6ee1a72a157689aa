/- Parts. -/
import Derived.Test.YtpnbhddmdfcjdaaGreatK11
set_option maxRecDepth 100000
namespace Go.Proofs.YtpnbhddmdfcjdaaGreat
open Go.RowKit
theorem ld_ints {w : World} {p : Addr} {v : Value} (h : w.cell? p = some v) : (loadVar 25 p).run Tryz.prog w = .ok v w := by simp [loadVar, go_sem, h]
end Go.Proofs.YtpnbhddmdfcjdaaGreat
