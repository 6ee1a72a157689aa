/- Parts. -/
import Derived.Test.YtpnbhddmdfcjdaaGreatK26
import Derived.Maps.OwnSet
import Derived.Maps.Ext
set_option maxRecDepth 100000
namespace Go.Proofs.YtpnbhddmdfcjdaaGreat
open Go.RowKit Go.Maps
/-- A number or a status in a variable of its own. -/
structure One (w : World) (b : Nat) (v : Value) : Prop where
  c : w.cell? ⟨b, 0, none⟩ = some v
  l : b < w.heap.size
end Go.Proofs.YtpnbhddmdfcjdaaGreat
