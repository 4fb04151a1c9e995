/-
  From the row's own reading of an argument that is a slice of unsigned numbers to the word that the walks use.
-/
import Derived.Test.YtflfdglpljodbaaDoorRead
import Derived.OpenShut
namespace Go.Proofs.YtflfdglpljodbaaDoor
open Go.RowKit Go.ChangeShapes

end Go.Proofs.YtflfdglpljodbaaDoor

