/-
  No cell of these rows narrows 'for every input' (looked for: loops, veiled, ifaces, maps, wideKeys, modest, calm, conditions, laid).
  DERIVED. THE GIVEN ROWS OF THIS SEAT. 6 by the template 'for every input the law returns true; each argument reads behind the call as it read before'; 0 by the template 'total and deterministic' (their statements: YthhlmhghiknnkaaTotals.lean).
  GIVEN WITH THE SEED: the statements are not yours to turn. If you find one false, say at which input.
  Laid BY PROGRAM, IN A SANDBOX (cutbox-rows.mjs): the forced cells as the released guide's own fill.sh prints them over the translation 6b5103034c5649ef… (all of the seat's roots in one cut). By AI agents, Wed Nov 11 2026. No macro, syntax, notation, axiom, sorry.
-/
import Derived.Test.YthhlmhghiknnkaaChecked
import GoSem.Claim
import GoSem.ClaimJoined
import GoSem.ClaimMapViews
import Derived.JoinedTies
import Derived.KernelRfl
namespace Go.Proofs.Ythhlmhghiknnkaa
/- THE CELL 'sum', in the pinned program and in every row, IS THE sha256 OF THE DUMP (.gsa) THAT YthhlmhghiknnkaaProg.lean LOADS. Nothing in Lean hashes anything: it is a label: what it is worth is what the hold of that sum in a sandbox is worth. -/
noncomputable def Try.pinned : Pinned := { name := "ythhlmhghiknnkaa", sum := "6b5103034c5649ef908b58a7fde7f6aae72a1eb6b032d371482e3dc79e4de180", checked := Try.checked }
namespace Rows
def none {H : Type} : Left H := { results := [], args := [] }

/-- 'almonrylaw14.NodeCodes': WHATEVER THE INPUT: true; the input reads as it did. -/
def nodeCodesSpec : ChangeSpec := { name := "nodeCodes", fn := fun _ => fun
  | [d1, d2, d3] => { results := [.lit (.bool true)], args := [d1, d2, d3] }
  | _ => none }
def nodeCodesRow : OpenClaim := { program := "ythhlmhghiknnkaa", sum := "6b5103034c5649ef908b58a7fde7f6aae72a1eb6b032d371482e3dc79e4de180", func := "almonry/almonrylaw14.NodeCodes", spec := "nodeCodes", unfollowed := true, recurses := true, apart := false }
def NodeCodesSaid : Prop := nodeCodesRow.holds Try.pinned (OpenSpec.ofChange nodeCodesSpec)

/-- ITS FALSE NEIGHBOUR: 'it returns false'. Refute it at one input. -/
def nodeCodesWrong : ChangeSpec := { name := "nodeCodes", fn := fun _ => fun
  | [d1, d2, d3] => { results := [.lit (.bool false)], args := [d1, d2, d3] }
  | _ => none }
def NodeCodesWrongFalsely : Prop := nodeCodesRow.holds Try.pinned (OpenSpec.ofChange nodeCodesWrong)

/-- 'almonrylaw14.NodeHolds': WHATEVER THE INPUT: true; the input reads as it did. -/
def nodeHoldsSpec : ChangeSpec := { name := "nodeHolds", fn := fun _ => fun
  | [d1, d2] => { results := [.lit (.bool true)], args := [d1, d2] }
  | _ => none }
def nodeHoldsRow : OpenClaim := { program := "ythhlmhghiknnkaa", sum := "6b5103034c5649ef908b58a7fde7f6aae72a1eb6b032d371482e3dc79e4de180", func := "almonry/almonrylaw14.NodeHolds", spec := "nodeHolds", unfollowed := true, recurses := true, apart := false }
def NodeHoldsSaid : Prop := nodeHoldsRow.holds Try.pinned (OpenSpec.ofChange nodeHoldsSpec)

/-- ITS FALSE NEIGHBOUR: 'it returns false'. Refute it at one input. -/
def nodeHoldsWrong : ChangeSpec := { name := "nodeHolds", fn := fun _ => fun
  | [d1, d2] => { results := [.lit (.bool false)], args := [d1, d2] }
  | _ => none }
def NodeHoldsWrongFalsely : Prop := nodeHoldsRow.holds Try.pinned (OpenSpec.ofChange nodeHoldsWrong)

/-- 'almonrylaw14.NodeSplits': WHATEVER THE INPUT: true; the input reads as it did. -/
def nodeSplitsSpec : ChangeSpec := { name := "nodeSplits", fn := fun _ => fun
  | [d1, d2] => { results := [.lit (.bool true)], args := [d1, d2] }
  | _ => none }
def nodeSplitsRow : OpenClaim := { program := "ythhlmhghiknnkaa", sum := "6b5103034c5649ef908b58a7fde7f6aae72a1eb6b032d371482e3dc79e4de180", func := "almonry/almonrylaw14.NodeSplits", spec := "nodeSplits", unfollowed := true, recurses := true, apart := false }
def NodeSplitsSaid : Prop := nodeSplitsRow.holds Try.pinned (OpenSpec.ofChange nodeSplitsSpec)

/-- ITS FALSE NEIGHBOUR: 'it returns false'. Refute it at one input. -/
def nodeSplitsWrong : ChangeSpec := { name := "nodeSplits", fn := fun _ => fun
  | [d1, d2] => { results := [.lit (.bool false)], args := [d1, d2] }
  | _ => none }
def NodeSplitsWrongFalsely : Prop := nodeSplitsRow.holds Try.pinned (OpenSpec.ofChange nodeSplitsWrong)

/-- 'almonrylaw14.NodeOrder': WHATEVER THE INPUT: true; the input reads as it did. -/
def nodeOrderSpec : ChangeSpec := { name := "nodeOrder", fn := fun _ => fun
  | [d1, d2, d3] => { results := [.lit (.bool true)], args := [d1, d2, d3] }
  | _ => none }
def nodeOrderRow : OpenClaim := { program := "ythhlmhghiknnkaa", sum := "6b5103034c5649ef908b58a7fde7f6aae72a1eb6b032d371482e3dc79e4de180", func := "almonry/almonrylaw14.NodeOrder", spec := "nodeOrder", unfollowed := true, recurses := true, apart := false }
def NodeOrderSaid : Prop := nodeOrderRow.holds Try.pinned (OpenSpec.ofChange nodeOrderSpec)

/-- ITS FALSE NEIGHBOUR: 'it returns false'. Refute it at one input. -/
def nodeOrderWrong : ChangeSpec := { name := "nodeOrder", fn := fun _ => fun
  | [d1, d2, d3] => { results := [.lit (.bool false)], args := [d1, d2, d3] }
  | _ => none }
def NodeOrderWrongFalsely : Prop := nodeOrderRow.holds Try.pinned (OpenSpec.ofChange nodeOrderWrong)

/-- 'almonrylaw14.NodeRemoves': WHATEVER THE INPUT: true; the input reads as it did. -/
def nodeRemovesSpec : ChangeSpec := { name := "nodeRemoves", fn := fun _ => fun
  | [d1, d2] => { results := [.lit (.bool true)], args := [d1, d2] }
  | _ => none }
def nodeRemovesRow : OpenClaim := { program := "ythhlmhghiknnkaa", sum := "6b5103034c5649ef908b58a7fde7f6aae72a1eb6b032d371482e3dc79e4de180", func := "almonry/almonrylaw14.NodeRemoves", spec := "nodeRemoves", unfollowed := true, recurses := true, apart := false }
def NodeRemovesSaid : Prop := nodeRemovesRow.holds Try.pinned (OpenSpec.ofChange nodeRemovesSpec)

/-- ITS FALSE NEIGHBOUR: 'it returns false'. Refute it at one input. -/
def nodeRemovesWrong : ChangeSpec := { name := "nodeRemoves", fn := fun _ => fun
  | [d1, d2] => { results := [.lit (.bool false)], args := [d1, d2] }
  | _ => none }
def NodeRemovesWrongFalsely : Prop := nodeRemovesRow.holds Try.pinned (OpenSpec.ofChange nodeRemovesWrong)

/-- 'almonrylaw14.NodePosts': WHATEVER THE INPUT: true; the input reads as it did. -/
def nodePostsSpec : ChangeSpec := { name := "nodePosts", fn := fun _ => fun
  | [d1, d2, d3] => { results := [.lit (.bool true)], args := [d1, d2, d3] }
  | _ => none }
def nodePostsRow : OpenClaim := { program := "ythhlmhghiknnkaa", sum := "6b5103034c5649ef908b58a7fde7f6aae72a1eb6b032d371482e3dc79e4de180", func := "almonry/almonrylaw14.NodePosts", spec := "nodePosts", unfollowed := true, recurses := true, apart := false }
def NodePostsSaid : Prop := nodePostsRow.holds Try.pinned (OpenSpec.ofChange nodePostsSpec)

/-- ITS FALSE NEIGHBOUR: 'it returns false'. Refute it at one input. -/
def nodePostsWrong : ChangeSpec := { name := "nodePosts", fn := fun _ => fun
  | [d1, d2, d3] => { results := [.lit (.bool false)], args := [d1, d2, d3] }
  | _ => none }
def NodePostsWrongFalsely : Prop := nodePostsRow.holds Try.pinned (OpenSpec.ofChange nodePostsWrong)

/- THE SECOND FORM. 'bulk': how many values and letters a reading holds, each counted each time it is reached (what is shared counts as often as it is met; a slice's spare places count too). A statement '..UptoSaid' is the law's where the arguments, and the package variables that the reading takes, are together of bulk at most 1048576: NARROWER than '..Said'. Prove '..Said' where nothing that the law and all that it calls make is longer than what came in: it says more and counts as full. Else prove '..UptoSaid'. A law counts once. -/
mutual
def uptoBulk {H : Type} : DataW H → Nat
  | .lit (.string bytes) => bytes.length + 1
  | .lit _ => 1
  | .nil => 1
  | .ptr d => uptoBulk d + 1
  | .slice elems spare => uptoBulkAll elems + uptoBulkAll spare + 1
  | .agg parts => uptoBulkAll parts + 1
  | .iface _ d => uptoBulk d + 1
  | .map entries => uptoBulkEntries entries + 1
  | .held _ => 1
def uptoBulkAll {H : Type} : List (DataW H) → Nat
  | [] => 0
  | d :: r => uptoBulk d + uptoBulkAll r
def uptoBulkEntries {H : Type} : List (Lit × DataW H) → Nat
  | [] => 0
  | x :: r => uptoBulkEntry x + uptoBulkEntries r
def uptoBulkEntry {H : Type} : Lit × DataW H → Nat
  | (.string bytes, d) => bytes.length + uptoBulk d + 1
  | (_, d) => uptoBulk d + 1
 end
def uptoSmall : (H : Type) → List (DataW H) → Bool := fun _ ds => decide (uptoBulkAll ds ≤ 1048576)
def OpenSpec.upto (s : _root_.Go.ChangeSpec) : _root_.Go.OpenSpec := { _root_.Go.OpenSpec.ofChange s with cond := some uptoSmall }

/-- 'almonrylaw14.NodeCodes', WHERE WHAT IT READS IS OF BULK AT MOST 1048576: true; the input reads as it did. -/
def nodeCodesUptoRow : OpenClaim := { program := "ythhlmhghiknnkaa", sum := "6b5103034c5649ef908b58a7fde7f6aae72a1eb6b032d371482e3dc79e4de180", func := "almonry/almonrylaw14.NodeCodes", spec := "nodeCodes", unfollowed := true, recurses := true, apart := false, narrowed := true }
def NodeCodesUptoSaid : Prop := nodeCodesUptoRow.holds Try.pinned (OpenSpec.upto nodeCodesSpec)

/-- 'almonrylaw14.NodeHolds', WHERE WHAT IT READS IS OF BULK AT MOST 1048576: true; the input reads as it did. -/
def nodeHoldsUptoRow : OpenClaim := { program := "ythhlmhghiknnkaa", sum := "6b5103034c5649ef908b58a7fde7f6aae72a1eb6b032d371482e3dc79e4de180", func := "almonry/almonrylaw14.NodeHolds", spec := "nodeHolds", unfollowed := true, recurses := true, apart := false, narrowed := true }
def NodeHoldsUptoSaid : Prop := nodeHoldsUptoRow.holds Try.pinned (OpenSpec.upto nodeHoldsSpec)

/-- 'almonrylaw14.NodeSplits', WHERE WHAT IT READS IS OF BULK AT MOST 1048576: true; the input reads as it did. -/
def nodeSplitsUptoRow : OpenClaim := { program := "ythhlmhghiknnkaa", sum := "6b5103034c5649ef908b58a7fde7f6aae72a1eb6b032d371482e3dc79e4de180", func := "almonry/almonrylaw14.NodeSplits", spec := "nodeSplits", unfollowed := true, recurses := true, apart := false, narrowed := true }
def NodeSplitsUptoSaid : Prop := nodeSplitsUptoRow.holds Try.pinned (OpenSpec.upto nodeSplitsSpec)

/-- 'almonrylaw14.NodeOrder', WHERE WHAT IT READS IS OF BULK AT MOST 1048576: true; the input reads as it did. -/
def nodeOrderUptoRow : OpenClaim := { program := "ythhlmhghiknnkaa", sum := "6b5103034c5649ef908b58a7fde7f6aae72a1eb6b032d371482e3dc79e4de180", func := "almonry/almonrylaw14.NodeOrder", spec := "nodeOrder", unfollowed := true, recurses := true, apart := false, narrowed := true }
def NodeOrderUptoSaid : Prop := nodeOrderUptoRow.holds Try.pinned (OpenSpec.upto nodeOrderSpec)

/-- 'almonrylaw14.NodeRemoves', WHERE WHAT IT READS IS OF BULK AT MOST 1048576: true; the input reads as it did. -/
def nodeRemovesUptoRow : OpenClaim := { program := "ythhlmhghiknnkaa", sum := "6b5103034c5649ef908b58a7fde7f6aae72a1eb6b032d371482e3dc79e4de180", func := "almonry/almonrylaw14.NodeRemoves", spec := "nodeRemoves", unfollowed := true, recurses := true, apart := false, narrowed := true }
def NodeRemovesUptoSaid : Prop := nodeRemovesUptoRow.holds Try.pinned (OpenSpec.upto nodeRemovesSpec)

/-- 'almonrylaw14.NodePosts', WHERE WHAT IT READS IS OF BULK AT MOST 1048576: true; the input reads as it did. -/
def nodePostsUptoRow : OpenClaim := { program := "ythhlmhghiknnkaa", sum := "6b5103034c5649ef908b58a7fde7f6aae72a1eb6b032d371482e3dc79e4de180", func := "almonry/almonrylaw14.NodePosts", spec := "nodePosts", unfollowed := true, recurses := true, apart := false, narrowed := true }
def NodePostsUptoSaid : Prop := nodePostsUptoRow.holds Try.pinned (OpenSpec.upto nodePostsSpec)

end Rows
end Go.Proofs.Ythhlmhghiknnkaa
