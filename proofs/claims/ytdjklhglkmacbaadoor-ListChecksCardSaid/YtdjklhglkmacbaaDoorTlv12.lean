/-
  The iterator as a value; how many things a thing is, by the program.
-/
import Derived.Test.YtdjklhglkmacbaaDoorTlv11
namespace Go.Proofs.YtdjklhglkmacbaaDoor
open Go.RowKit Go.Shelf
set_option linter.unusedVariables false
set_option linter.unusedSimpArgs false
attribute [local go_sem] Oper.semAt_some

end Go.Proofs.YtdjklhglkmacbaaDoor
