/-
  No cell of these rows narrows 'for every input' (looked for: loops, veiled, ifaces, maps, wideKeys, modest, calm, conditions, laid).
  DERIVED. THE GIVEN ROWS OF THIS SEAT. 5 by the template 'for every input the law returns true; each argument reads behind the call as it read before'; 0 by the template 'total and deterministic' (their statements: YtolfmodgkkjnbaaGreatTotals.lean).
  GIVEN WITH THE SEED: the statements are not yours to turn. If you find one false, say at which input.
  Laid BY PROGRAM, IN A SANDBOX (cutbox-rows.mjs): the forced cells as the released guide's own fill.sh prints them over the translation 3d38effc4da9fb15… (all of the seat's roots in one cut). By AI agents, Wed Nov 11 2026. No macro, syntax, notation, axiom, sorry.
-/
import Derived.Test.YtolfmodgkkjnbaaGreatChecked
import GoSem.Claim
import GoSem.ClaimJoined
import GoSem.ClaimMapViews
import Derived.JoinedTies
import Derived.KernelRfl
namespace Go.Proofs.YtolfmodgkkjnbaaGreat
/- THE CELL 'sum', in the pinned program and in every row, IS THE sha256 OF THE DUMP (.gsa) THAT YtolfmodgkkjnbaaGreatProg.lean LOADS. Nothing in Lean hashes anything: it is a label: what it is worth is what the hold of that sum in a sandbox is worth. -/
noncomputable def Tryz.pinned : Pinned := { name := "ytolfmodgkkjnbaagreat", sum := "3d38effc4da9fb15337aaf9c6e44be6ef85efd22d2bceeab7580fe1b17f27b85", checked := Tryz.checked }
namespace Rows
def none {H : Type} : Left H := { results := [], args := [] }

/-- 'almonrylaw09.SnapSees': WHATEVER THE INPUT: true; the input reads as it did. -/
def snapSeesSpec : ChangeSpec := { name := "snapSees", fn := fun _ => fun
  | [d1, d2, d3] => { results := [.lit (.bool true)], args := [d1, d2, d3] }
  | _ => none }
def snapSeesRow : OpenClaim := { program := "ytolfmodgkkjnbaagreat", sum := "3d38effc4da9fb15337aaf9c6e44be6ef85efd22d2bceeab7580fe1b17f27b85", func := "almonry/almonrylaw09.SnapSees", spec := "snapSees", inPlace := ["internal/abi.NoEscape", "internal/bytealg.MakeNoZero"], unfollowed := true, recurses := true, apart := false }
def SnapSeesSaid : Prop := snapSeesRow.holds Tryz.pinned (OpenSpec.ofChange snapSeesSpec)

/-- ITS FALSE NEIGHBOUR: 'it returns false'. Refute it at one input. -/
def snapSeesWrong : ChangeSpec := { name := "snapSees", fn := fun _ => fun
  | [d1, d2, d3] => { results := [.lit (.bool false)], args := [d1, d2, d3] }
  | _ => none }
def SnapSeesWrongFalsely : Prop := snapSeesRow.holds Tryz.pinned (OpenSpec.ofChange snapSeesWrong)

/-- 'almonrylaw09.SnapOwn': WHATEVER THE INPUT: true; the input reads as it did. -/
def snapOwnSpec : ChangeSpec := { name := "snapOwn", fn := fun _ => fun
  | [d1, d2, d3] => { results := [.lit (.bool true)], args := [d1, d2, d3] }
  | _ => none }
def snapOwnRow : OpenClaim := { program := "ytolfmodgkkjnbaagreat", sum := "3d38effc4da9fb15337aaf9c6e44be6ef85efd22d2bceeab7580fe1b17f27b85", func := "almonry/almonrylaw09.SnapOwn", spec := "snapOwn", inPlace := ["internal/abi.NoEscape", "internal/bytealg.MakeNoZero"], unfollowed := true, recurses := true, apart := false }
def SnapOwnSaid : Prop := snapOwnRow.holds Tryz.pinned (OpenSpec.ofChange snapOwnSpec)

/-- ITS FALSE NEIGHBOUR: 'it returns false'. Refute it at one input. -/
def snapOwnWrong : ChangeSpec := { name := "snapOwn", fn := fun _ => fun
  | [d1, d2, d3] => { results := [.lit (.bool false)], args := [d1, d2, d3] }
  | _ => none }
def SnapOwnWrongFalsely : Prop := snapOwnRow.holds Tryz.pinned (OpenSpec.ofChange snapOwnWrong)

/-- 'almonrylaw09.SnapOne': WHATEVER THE INPUT: true; the input reads as it did. -/
def snapOneSpec : ChangeSpec := { name := "snapOne", fn := fun _ => fun
  | [d1, d2, d3] => { results := [.lit (.bool true)], args := [d1, d2, d3] }
  | _ => none }
def snapOneRow : OpenClaim := { program := "ytolfmodgkkjnbaagreat", sum := "3d38effc4da9fb15337aaf9c6e44be6ef85efd22d2bceeab7580fe1b17f27b85", func := "almonry/almonrylaw09.SnapOne", spec := "snapOne", inPlace := ["internal/abi.NoEscape", "internal/bytealg.MakeNoZero"], unfollowed := true, recurses := true, apart := false }
def SnapOneSaid : Prop := snapOneRow.holds Tryz.pinned (OpenSpec.ofChange snapOneSpec)

/-- ITS FALSE NEIGHBOUR: 'it returns false'. Refute it at one input. -/
def snapOneWrong : ChangeSpec := { name := "snapOne", fn := fun _ => fun
  | [d1, d2, d3] => { results := [.lit (.bool false)], args := [d1, d2, d3] }
  | _ => none }
def SnapOneWrongFalsely : Prop := snapOneRow.holds Tryz.pinned (OpenSpec.ofChange snapOneWrong)

/-- 'almonrylaw09.SnapFirst': WHATEVER THE INPUT: true; the input reads as it did. -/
def snapFirstSpec : ChangeSpec := { name := "snapFirst", fn := fun _ => fun
  | [d1, d2, d3] => { results := [.lit (.bool true)], args := [d1, d2, d3] }
  | _ => none }
def snapFirstRow : OpenClaim := { program := "ytolfmodgkkjnbaagreat", sum := "3d38effc4da9fb15337aaf9c6e44be6ef85efd22d2bceeab7580fe1b17f27b85", func := "almonry/almonrylaw09.SnapFirst", spec := "snapFirst", inPlace := ["internal/abi.NoEscape", "internal/bytealg.MakeNoZero"], unfollowed := true, recurses := true, apart := false }
def SnapFirstSaid : Prop := snapFirstRow.holds Tryz.pinned (OpenSpec.ofChange snapFirstSpec)

/-- ITS FALSE NEIGHBOUR: 'it returns false'. Refute it at one input. -/
def snapFirstWrong : ChangeSpec := { name := "snapFirst", fn := fun _ => fun
  | [d1, d2, d3] => { results := [.lit (.bool false)], args := [d1, d2, d3] }
  | _ => none }
def SnapFirstWrongFalsely : Prop := snapFirstRow.holds Tryz.pinned (OpenSpec.ofChange snapFirstWrong)

/-- 'almonrylaw09.SnapLater': WHATEVER THE INPUT: true; the input reads as it did. -/
def snapLaterSpec : ChangeSpec := { name := "snapLater", fn := fun _ => fun
  | [d1, d2, d3] => { results := [.lit (.bool true)], args := [d1, d2, d3] }
  | _ => none }
def snapLaterRow : OpenClaim := { program := "ytolfmodgkkjnbaagreat", sum := "3d38effc4da9fb15337aaf9c6e44be6ef85efd22d2bceeab7580fe1b17f27b85", func := "almonry/almonrylaw09.SnapLater", spec := "snapLater", inPlace := ["internal/abi.NoEscape", "internal/bytealg.MakeNoZero"], unfollowed := true, recurses := true, apart := false }
def SnapLaterSaid : Prop := snapLaterRow.holds Tryz.pinned (OpenSpec.ofChange snapLaterSpec)

/-- ITS FALSE NEIGHBOUR: 'it returns false'. Refute it at one input. -/
def snapLaterWrong : ChangeSpec := { name := "snapLater", fn := fun _ => fun
  | [d1, d2, d3] => { results := [.lit (.bool false)], args := [d1, d2, d3] }
  | _ => none }
def SnapLaterWrongFalsely : Prop := snapLaterRow.holds Tryz.pinned (OpenSpec.ofChange snapLaterWrong)

/- THE SECOND FORM. 'bulk': how many values and letters a reading holds, each counted each time it is reached (what is shared counts as often as it is met; a slice's spare places count too). A statement '..UptoSaid' is the law's where the arguments, and the package variables that the reading takes, are together of bulk at most 1048576: NARROWER than '..Said'. Prove '..Said' where nothing that the law and all that it calls make is longer than what came in: it says more and counts as full. Else prove '..UptoSaid'. A law counts once. -/
mutual
def uptoBulk {H : Type} : DataW H → Nat
  | .lit (.string bytes) => bytes.length + 1
  | .lit _ => 1
  | .nil => 1
  | .ptr d => uptoBulk d + 1
  | .slice elems spare => uptoBulkAll elems + uptoBulkAll spare + 1
  | .agg parts => uptoBulkAll parts + 1
  | .iface _ d => uptoBulk d + 1
  | .map entries => uptoBulkEntries entries + 1
  | .held _ => 1
def uptoBulkAll {H : Type} : List (DataW H) → Nat
  | [] => 0
  | d :: r => uptoBulk d + uptoBulkAll r
def uptoBulkEntries {H : Type} : List (Lit × DataW H) → Nat
  | [] => 0
  | x :: r => uptoBulkEntry x + uptoBulkEntries r
def uptoBulkEntry {H : Type} : Lit × DataW H → Nat
  | (.string bytes, d) => bytes.length + uptoBulk d + 1
  | (_, d) => uptoBulk d + 1
 end
def uptoSmall : (H : Type) → List (DataW H) → Bool := fun _ ds => decide (uptoBulkAll ds ≤ 1048576)
def OpenSpec.upto (s : _root_.Go.ChangeSpec) : _root_.Go.OpenSpec := { _root_.Go.OpenSpec.ofChange s with cond := some uptoSmall }

/-- 'almonrylaw09.SnapSees', WHERE WHAT IT READS IS OF BULK AT MOST 1048576: true; the input reads as it did. -/
def snapSeesUptoRow : OpenClaim := { program := "ytolfmodgkkjnbaagreat", sum := "3d38effc4da9fb15337aaf9c6e44be6ef85efd22d2bceeab7580fe1b17f27b85", func := "almonry/almonrylaw09.SnapSees", spec := "snapSees", inPlace := ["internal/abi.NoEscape", "internal/bytealg.MakeNoZero"], unfollowed := true, recurses := true, apart := false, narrowed := true }
def SnapSeesUptoSaid : Prop := snapSeesUptoRow.holds Tryz.pinned (OpenSpec.upto snapSeesSpec)

/-- 'almonrylaw09.SnapOwn', WHERE WHAT IT READS IS OF BULK AT MOST 1048576: true; the input reads as it did. -/
def snapOwnUptoRow : OpenClaim := { program := "ytolfmodgkkjnbaagreat", sum := "3d38effc4da9fb15337aaf9c6e44be6ef85efd22d2bceeab7580fe1b17f27b85", func := "almonry/almonrylaw09.SnapOwn", spec := "snapOwn", inPlace := ["internal/abi.NoEscape", "internal/bytealg.MakeNoZero"], unfollowed := true, recurses := true, apart := false, narrowed := true }
def SnapOwnUptoSaid : Prop := snapOwnUptoRow.holds Tryz.pinned (OpenSpec.upto snapOwnSpec)

/-- 'almonrylaw09.SnapOne', WHERE WHAT IT READS IS OF BULK AT MOST 1048576: true; the input reads as it did. -/
def snapOneUptoRow : OpenClaim := { program := "ytolfmodgkkjnbaagreat", sum := "3d38effc4da9fb15337aaf9c6e44be6ef85efd22d2bceeab7580fe1b17f27b85", func := "almonry/almonrylaw09.SnapOne", spec := "snapOne", inPlace := ["internal/abi.NoEscape", "internal/bytealg.MakeNoZero"], unfollowed := true, recurses := true, apart := false, narrowed := true }
def SnapOneUptoSaid : Prop := snapOneUptoRow.holds Tryz.pinned (OpenSpec.upto snapOneSpec)

/-- 'almonrylaw09.SnapFirst', WHERE WHAT IT READS IS OF BULK AT MOST 1048576: true; the input reads as it did. -/
def snapFirstUptoRow : OpenClaim := { program := "ytolfmodgkkjnbaagreat", sum := "3d38effc4da9fb15337aaf9c6e44be6ef85efd22d2bceeab7580fe1b17f27b85", func := "almonry/almonrylaw09.SnapFirst", spec := "snapFirst", inPlace := ["internal/abi.NoEscape", "internal/bytealg.MakeNoZero"], unfollowed := true, recurses := true, apart := false, narrowed := true }
def SnapFirstUptoSaid : Prop := snapFirstUptoRow.holds Tryz.pinned (OpenSpec.upto snapFirstSpec)

/-- 'almonrylaw09.SnapLater', WHERE WHAT IT READS IS OF BULK AT MOST 1048576: true; the input reads as it did. -/
def snapLaterUptoRow : OpenClaim := { program := "ytolfmodgkkjnbaagreat", sum := "3d38effc4da9fb15337aaf9c6e44be6ef85efd22d2bceeab7580fe1b17f27b85", func := "almonry/almonrylaw09.SnapLater", spec := "snapLater", inPlace := ["internal/abi.NoEscape", "internal/bytealg.MakeNoZero"], unfollowed := true, recurses := true, apart := false, narrowed := true }
def SnapLaterUptoSaid : Prop := snapLaterUptoRow.holds Tryz.pinned (OpenSpec.upto snapLaterSpec)

end Rows
end Go.Proofs.YtolfmodgkkjnbaaGreat
