/-
  A digest: by the program.
-/
import Derived.Test.YtebhpjbjfbadjaaSha9
namespace Go.Proofs.Ytebhpjbjfbadjaa
open Go.RowKit
set_option linter.unusedVariables false
attribute [local go_sem ↓] Go.wp_at_zero Go.wp_at_succ

end Go.Proofs.Ytebhpjbjfbadjaa
