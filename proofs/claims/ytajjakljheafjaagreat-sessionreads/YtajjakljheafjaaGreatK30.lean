/- Parts. -/
import Derived.Test.YtajjakljheafjaaGreatK29
import Derived.Maps.AppendAt
import Derived.Test.YtajjakljheafjaaGreatK22
set_option maxRecDepth 100000

namespace Go.Proofs.YtajjakljheafjaaGreat
open Go.RowKit
theorem hiB_ok {e : En} (h : e.ok = true) : hiB e = e.enc := by unfold hiB; rw [if_neg (En.ok_ne h)]
end Go.Proofs.YtajjakljheafjaaGreat
namespace Go.Proofs.YtajjakljheafjaaGreat
open Go.RowKit
/-- A node that may stand in memory. -/
structure Gd (X : Nd) : Prop where
  lvl : X.lv ≤ 255
  rt : X.rt ≤ 65535
  ok : ∃ lo, X.Ok lo
  kok : X.Kok
theorem Gd.nm {X : Nd} (h : Gd X) {w : World} {B : Nat} {ao : Option Addr} (hs : Strs w B ao X.items) : Nm w X B ao := ⟨hs, h.lvl, h.rt, h.ok, h.kok⟩
end Go.Proofs.YtajjakljheafjaaGreat
