/-
  An argument that is bytes, opened.
-/
import Derived.Test.YtflfdglpljodbaaDoorChecked
import Derived.Test.YtflfdglpljodbaaDoorMem
import Derived.Test.YtflfdglpljodbaaDoorRead
import Derived.Test.YtflfdglpljodbaaDoorOpen
import Derived.ChangeSlices
import Derived.ChangeArms
import Derived.WideShapes
import Derived.Deep.Slices
namespace Go.Proofs.YtflfdglpljodbaaDoor
open Go.RowKit Go.ChangeShapes Go.WideShapes
set_option linter.unusedVariables false

end Go.Proofs.YtflfdglpljodbaaDoor

