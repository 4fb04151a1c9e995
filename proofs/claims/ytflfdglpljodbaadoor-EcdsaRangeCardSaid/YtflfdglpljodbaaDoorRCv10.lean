/-
  The document: is it a point?
-/
import Derived.Test.YtflfdglpljodbaaDoorRBoxP
import Derived.Deep.RegionLaw
import Derived.Deep.RegionHeld3
import Derived.Deep.DrawnRows
namespace Go.Proofs.YtflfdglpljodbaaDoor
open Go.RowKit
set_option linter.unusedVariables false
set_option linter.unusedSimpArgs false
end Go.Proofs.YtflfdglpljodbaaDoor
