/-
  A point as an argument, opened.
-/
import Derived.Test.YtflfdglpljodbaaDoorOpenB
import Derived.Test.YtflfdglpljodbaaDoorNatA
import Derived.Lib.SmallJoins
namespace Go.Proofs.YtflfdglpljodbaaDoor
open Go.RowKit Go.ChangeShapes Go.WideShapes
set_option linter.unusedVariables false

/-- A point: its two numbers' rows. -/
structure Pt where
 (xa:Option Addr) (xc:Nat) (xl:List Nat) (ya:Option Addr) (yc:Nat) (yl:List Nat) (inf:Bool)
def ptcell (p:Pt):Array Value:=#[.slice p.xa p.xl.length p.xc,.slice p.ya p.yl.length p.yc,.bool p.inf]
structure PtP (p:Pt) (w:World):Prop where
 (hx:Rd .u32 w w.heap.size p.xa p.xc p.xl) (dx:Dg p.xl) (hy:Rd .u32 w w.heap.size p.ya p.yc p.yl) (dy:Dg p.yl)
end Go.Proofs.YtflfdglpljodbaaDoor

