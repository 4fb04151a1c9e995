/-
  An argument that is bytes, opened.
-/
import Derived.Test.YtjpoiecbjpipdaaDoorChecked
import Derived.Test.YtjpoiecbjpipdaaDoorMem
import Derived.Test.YtjpoiecbjpipdaaDoorRead
import Derived.Test.YtjpoiecbjpipdaaDoorOpen
import Derived.ChangeSlices
import Derived.ChangeArms
import Derived.WideShapes
import Derived.Deep.Slices
namespace Go.Proofs.YtjpoiecbjpipdaaDoor
open Go.RowKit Go.ChangeShapes Go.WideShapes
set_option linter.unusedVariables false

end Go.Proofs.YtjpoiecbjpipdaaDoor
