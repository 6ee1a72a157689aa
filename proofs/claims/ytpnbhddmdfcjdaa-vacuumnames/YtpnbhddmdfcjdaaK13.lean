/- Parts. -/
import Derived.Test.YtpnbhddmdfcjdaaK06
set_option maxRecDepth 100000
namespace Go.Proofs.Ytpnbhddmdfcjdaa
open Go.RowKit
def Pg.none : Pg := ⟨0, 0, 0, 0, ⟨#[]⟩, []⟩
/-- What stands in the bytes behind the sum is a page's. -/
def good (D : List UInt8) (p : Pg) (r : List UInt8) : Prop := (D.getD 0 0).toNat ≤ 127 ∧ (1 ≤ p.kind ∧ p.kind ≤ 3) ∧ r = List.replicate r.length 0
instance (D : List UInt8) (p : Pg) (r : List UInt8) : Decidable (good D p r) := by unfold good; exact inferInstance
end Go.Proofs.Ytpnbhddmdfcjdaa
