/-
  Bytes of the call's own, wherever in their block they begin; one append more.
-/
import Derived.Test.YtebhpjbjfbadjaaSha4
import Derived.Test.YtebhpjbjfbadjaaMine
import Derived.Deep.AppendSrc
import Derived.Lib.LazyBuf
import Derived.Deep.Upon
import Derived.OwnWalk
namespace Go.Proofs.Ytebhpjbjfbadjaa
open Go.RowKit
set_option linter.unusedVariables false

section
variable {e : TypeId} {w w' : World} {B : Nat} {A : Option Addr} {c : Nat} {l : List Nat}
end

end Go.Proofs.Ytebhpjbjfbadjaa
