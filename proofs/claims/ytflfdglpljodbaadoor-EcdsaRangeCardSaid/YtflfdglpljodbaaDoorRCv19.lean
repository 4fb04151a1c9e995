/-
  The sum of a wide point and one that is not wide.
-/
import Derived.Test.YtflfdglpljodbaaDoorRCv18
namespace Go.Proofs.YtflfdglpljodbaaDoor
open Go.RowKit
set_option linter.unusedVariables false
set_option linter.unusedSimpArgs false
end Go.Proofs.YtflfdglpljodbaaDoor
