/-
  A wide point, twice.
-/
import Derived.Test.YtflfdglpljodbaaDoorRCvD
namespace Go.Proofs.YtflfdglpljodbaaDoor
open Go.RowKit
set_option linter.unusedVariables false
set_option linter.unusedSimpArgs false
end Go.Proofs.YtflfdglpljodbaaDoor
