/-
  Whether a thing may be, its bytes: by the document.
-/
import Derived.Test.YtogbeiifnhegiaaTlv9
namespace Go.Proofs.Ytogbeiifnhegiaa
open Go.RowKit
set_option linter.unusedVariables false
set_option linter.unusedSimpArgs false

/-- A thing that may be. -/
def isT (t : Tr) : Bool := t.sound 1 && decide (t.count ≤ 600) && decide (t.enc.length ≤ 12000)
/-- Its bytes, or none. -/
def bytesT (t : Tr) : List Nat := if isT t = true then t.enc else []
end Go.Proofs.Ytogbeiifnhegiaa
