/-
  How many things it is: by the document; whether it is more than is looked at.
-/
import Derived.Test.YtmoefccfdnijpaaDoorTlv1
import Derived.Test.YtmoefccfdnijpaaDoorStr
namespace Go.Proofs.YtmoefccfdnijpaaDoor
open Go.RowKit
set_option linter.unusedVariables false
set_option linter.unusedSimpArgs false

theorem ret_int {k : IntKind} {a b : Int} (h : a = b) : Ending.returned (.int k a) = .returned (.int k b) := by rw [h]
theorem ret_bool {a b : Bool} (h : a = b) : Ending.returned (.bool a) = .returned (.bool b) := by rw [h]
theorem below_drewN {B : Nat} {a w : World} (h : Below B a w) (n : Nat) : Below B a (w.drewN n) := ⟨h.os, h.tape, h.output, h.size, h.block⟩
theorem not_true {v : Bool} (h : v = true → False) : v = false := by cases v; rfl; exact (h rfl).elim
def RelC (w : World) (cs : Array Value) (l : List Tr) (n : Nat) (v i : Value) (wr : World) : Prop :=
  ∃ k : Nat, k ≤ n ∧ i = .int .i64 k ∧ v = .int .i64 (1 + (Tr.counts (l.take k) : Int)) ∧ Hid (Below w.heap.size w wr) ∧ Hid (Holds wr w.heap.size 32 cs)
end Go.Proofs.YtmoefccfdnijpaaDoor
