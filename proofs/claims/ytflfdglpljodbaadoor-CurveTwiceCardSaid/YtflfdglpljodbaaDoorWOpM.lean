/-
  From the row's own reading of an argument that is a slice of unsigned numbers to the word that the walks use. An argument that is bytes, opened. A point as an argument, opened.
-/
import Derived.Test.YtflfdglpljodbaaDoorWRead
import Derived.OpenShut
import Derived.Test.YtflfdglpljodbaaDoorChecked
import Derived.Test.YtflfdglpljodbaaDoorWMem
import Derived.ChangeSlices
import Derived.ChangeArms
import Derived.WideShapes
import Derived.Deep.Slices
import Derived.Test.YtflfdglpljodbaaDoorWNatA
import Derived.Lib.SmallJoins
namespace Go.Proofs.YtflfdglpljodbaaDoor
open Go.RowKit Go.ChangeShapes
end Go.Proofs.YtflfdglpljodbaaDoor
namespace Go.Proofs.YtflfdglpljodbaaDoor
open Go.RowKit Go.ChangeShapes Go.WideShapes
set_option linter.unusedVariables false
end Go.Proofs.YtflfdglpljodbaaDoor
namespace Go.Proofs.YtflfdglpljodbaaDoor
open Go.RowKit Go.ChangeShapes Go.WideShapes
set_option linter.unusedVariables false
structure Pt where
 (xa:Option Addr) (xc:Nat) (xl:List Nat) (ya:Option Addr) (yc:Nat) (yl:List Nat) (inf:Bool)
def ptcell (p:Pt):Array Value:=#[.slice p.xa p.xl.length p.xc,.slice p.ya p.yl.length p.yc,.bool p.inf]
structure PtP (p:Pt) (w:World):Prop where
 (hx:Rd .u32 w w.heap.size p.xa p.xc p.xl) (dx:Dg p.xl) (hy:Rd .u32 w w.heap.size p.ya p.yc p.yl) (dy:Dg p.yl)
end Go.Proofs.YtflfdglpljodbaaDoor
