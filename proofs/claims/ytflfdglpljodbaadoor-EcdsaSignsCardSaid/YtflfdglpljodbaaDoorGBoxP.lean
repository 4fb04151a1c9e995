/-
  A point in a block of its own.
-/
import Derived.Test.YtflfdglpljodbaaDoorGCvA
namespace Go.Proofs.YtflfdglpljodbaaDoor
open Go.RowKit
set_option linter.unusedVariables false
structure BoxAt (w:World) (b:Nat) (Ax:Option Addr) (nx cx:Nat) (Ay:Option Addr) (ny cy:Nat) (inf:Bool):Prop where
 h:Holds w b 26 #[.slice Ax nx cx,.slice Ay ny cy,.bool inf]
theorem BoxAt.cells {w:World} {b nx cx ny cy:Nat} {Ax Ay:Option Addr} {inf:Bool} (h:BoxAt w b Ax nx cx Ay ny cy inf) :
  w.cell? ⟨b,0,none⟩=some (.slice Ax nx cx)∧w.cell? ⟨b,1,none⟩=some (.slice Ay ny cy)∧w.cell? ⟨b,2,none⟩=some (.bool inf):=⟨h.h.cell 0,h.h.cell 1,h.h.cell 2⟩
theorem BoxAt.under {w w':World} {b B nx cx ny cy:Nat} {Ax Ay:Option Addr} {inf:Bool} (h:BoxAt w b Ax nx cx Ay ny cy inf) (hb:Below B w w') (hB:b<B):BoxAt w' b Ax nx cx Ay ny cy inf:=⟨h.h.under hb hB⟩
end Go.Proofs.YtflfdglpljodbaaDoor
