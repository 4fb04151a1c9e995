/-
  The law of powers that go round, walked.
-/
import Derived.Test.YtflfdglpljodbaaDoorGRefB
namespace Go.Proofs.YtflfdglpljodbaaDoor
open Go.RowKit
set_option linter.unusedVariables false
end Go.Proofs.YtflfdglpljodbaaDoor
