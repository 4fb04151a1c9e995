/-
  Bytes, read: by the program.
-/
import Derived.Test.YtmoefccfdnijpaaDoorTlv18
namespace Go.Proofs.YtmoefccfdnijpaaDoor
open Go.RowKit
set_option linter.unusedVariables false
set_option linter.unusedSimpArgs false

def readT (L : List Nat) : Except Nat Tr := if 12000 < L.length then .error 4 else match rd L 1 0 with
  | .error e => .error e
  | .ok (t, m, _) => if m < L.length then .error 2 else .ok t
def ReadPost (w : World) : Except Nat Tr → Ending → World → Prop
  | .error x, e, w' => e = .returned (.tuple #[noNode, .int .i64 (x : Int)]) ∧ Below w.heap.size w w'
  | .ok t, e, w' => ∃ lt, e = .returned (.tuple #[lt.val, .int .i64 0]) ∧ lt.t = t ∧ TrAt w' w'.heap.size lt ∧ Below w.heap.size w w'
end Go.Proofs.YtmoefccfdnijpaaDoor
