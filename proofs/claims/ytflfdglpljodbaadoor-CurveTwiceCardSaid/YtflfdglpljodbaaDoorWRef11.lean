/-
  The law of powers that go round, walked.
-/
import Derived.Test.YtflfdglpljodbaaDoorWRefB
namespace Go.Proofs.YtflfdglpljodbaaDoor
open Go.RowKit
set_option linter.unusedVariables false
end Go.Proofs.YtflfdglpljodbaaDoor
