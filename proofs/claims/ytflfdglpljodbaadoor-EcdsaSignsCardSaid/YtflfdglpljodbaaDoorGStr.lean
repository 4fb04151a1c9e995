/-
  Bytes as a text; bytes compared.
-/
import Derived.Test.YtflfdglpljodbaaDoorChecked
import Derived.WalkKit
import Derived.WalkSpells
import Derived.WalkLawsBesides
import Derived.Outline
import Derived.BigQuiet
import Derived.Deep.QuietTactic
import Derived.IntWalk
import Derived.Test.YtflfdglpljodbaaDoorGMem
import Derived.Test.YtflfdglpljodbaaDoorGRead
import Derived.Test.YtflfdglpljodbaaDoorGOwn
import Derived.Laws.IdiomStrings
import Derived.Laws.BytesArg
import Derived.Lib.Strings
namespace Go.Proofs.YtflfdglpljodbaaDoor
open Go.RowKit
set_option linter.unusedVariables false
def str (l:List Nat):ByteArray:=⟨(l.map UInt8.ofNat).toArray⟩
def Oct8 (l:List Nat):Prop:=∀ x∈l,x<256
end Go.Proofs.YtflfdglpljodbaaDoor
