/-
  One digit of a long division: guessed, taken, and given back where it was one too many.
-/
import Derived.Test.YtflfdglpljodbaaDoorRNatB
import Derived.Test.YtflfdglpljodbaaDoorRPure2
namespace Go.Proofs.YtflfdglpljodbaaDoor
open Go.RowKit
set_option linter.unusedVariables false
end Go.Proofs.YtflfdglpljodbaaDoor
