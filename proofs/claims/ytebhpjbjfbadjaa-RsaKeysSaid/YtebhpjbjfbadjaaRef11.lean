/-
  The law of powers that go round, walked.
-/
import Derived.Test.YtebhpjbjfbadjaaRefB
namespace Go.Proofs.Ytebhpjbjfbadjaa
open Go.RowKit
set_option linter.unusedVariables false

end Go.Proofs.Ytebhpjbjfbadjaa
