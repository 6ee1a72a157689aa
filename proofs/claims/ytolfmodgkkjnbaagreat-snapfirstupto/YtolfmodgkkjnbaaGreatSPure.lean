/- What a view sees, as plain numbers; lists of numbers in memory. -/
import Derived.Test.YtolfmodgkkjnbaaGreatCBox
import Derived.Test.YtolfmodgkkjnbaaGreatSInts
import Derived.Test.YtolfmodgkkjnbaaGreatCRefC
namespace Go.Proofs.YtolfmodgkkjnbaaGreat
open Go.RowKit

/-- A view as plain data. -/
structure Vw where
  m : Int
  next : Int
  act : List Int
  own : Int
  run : List Int
  pg : Pg
/-- A version as plain data. -/
structure Tp where
  xmin : Int
  xmax : Int
  fz : Bool
  key : ByteArray
  val : ByteArray
noncomputable def vsi (V : Vw) (x : Int) : Int := if x ∈ V.run then 1 else (gst V.m V.pg x : Int)
theorem vsi_bd (V : Vw) (x : Int) : 0 ≤ vsi V x ∧ vsi V x < 4 := by
  unfold vsi gst
  split
  · omega
  · split
    · have := stAt_lt (bl (it1 V.pg)) (x - 1).toNat
      omega
    · omega
def vown (V : Vw) (x : Int) : Bool := V.own != 0 && x == V.own
def vdone (V : Vw) (x : Int) : Bool := xbef V.m x V.next && !decide (x ∈ V.act)
noncomputable def vcom (V : Vw) (x : Int) : Bool := decide (vsi V x = 2)
noncomputable def vabo (V : Vw) (x : Int) : Bool := decide (vsi V x = 3)
noncomputable def vsees (V : Vw) (x : Int) : Bool := vown V x || (vcom V x && vdone V x)
noncomputable def vnews (V : Vw) (x : Int) : Bool := vcom V x && !vsees V x
noncomputable def vpast (V : Vw) (x h : Int) : Bool := vcom V x && xbef V.m x h
noncomputable def vbeg (V : Vw) (T : Tp) : Bool := T.fz || vsees V T.xmin
noncomputable def vend (V : Vw) (T : Tp) : Bool := T.xmax != 0 && vsees V T.xmax
noncomputable def vnever (V : Vw) (T : Tp) : Bool := !T.fz && vabo V T.xmin
noncomputable def vvis (V : Vw) (T : Tp) : Bool := vbeg V T && !vend V T
noncomputable def vnewer (V : Vw) (T : Tp) : Bool := (!T.fz && vnews V T.xmin) || (T.xmax != 0 && vnews V T.xmax)
noncomputable def vgone (V : Vw) (T : Tp) (h : Int) : Bool := vnever V T || (T.xmax != 0 && vpast V T.xmax h)
noncomputable def vold (V : Vw) (T : Tp) (h : Int) : Bool := !T.fz && vpast V T.xmin h
noncomputable def voff (V : Vw) (T : Tp) : Bool := T.xmax != 0 && vabo V T.xmax

/-- Where a view's lists lie. -/
structure Lo where
  bA : Nat
  aA : Option Addr
  cA : Nat
  bR : Nat
  aR : Option Addr
  cR : Nat
  bP : Nat
  aP : Option Addr
  cP : Nat
/-- A view's lists in memory. -/
structure Sn (W : World) (V : Vw) (q : Lo) : Prop where
  act : Ns W q.bA q.aA V.act
  run : Ns W q.bR q.aR V.run
  pg : Strs W q.bP q.aP V.pg.items
  fit : Fit q.aP V.pg.items.length q.cP
  m : I64 V.m
  next : I64 V.next
  own : I64 V.own
theorem Sn.more {W W' : World} {V : Vw} {q : Lo} (h : Sn W V q) (ho : Only (fun _ => False) W W') : Sn W' V q := ⟨h.act.more ho, h.run.more ho, h.pg.more ho, h.fit, h.m, h.next, h.own⟩
/-- The same lists, without what a call may not take up. -/
def Vw.with (V : Vw) (p : Pg) : Vw := ⟨V.m, V.next, V.act, V.own, V.run, p⟩

end Go.Proofs.YtolfmodgkkjnbaaGreat
