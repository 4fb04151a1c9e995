/-
  A thing as a number: by the document.
-/
import Derived.Test.YtbkjjhpnjfdlbaaGreatDoorAt3
namespace Go.Proofs.YtbkjjhpnjfdlbaaGreatDoor
open Go.RowKit
set_option linter.unusedVariables false
set_option linter.unusedSimpArgs false

theorem getD_oct {b : List Nat} (ho : ∀ y ∈ b, y < 256) (j : Nat) : b.getD j 0 < 256 := by
  rw [List.getD_eq_getElem?_getD]
  rcases h : b[j]? with _ | y
  · simp
  · exact ho y (List.mem_of_getElem? h)
/-- Bytes of one's own, read: where they lie, and each of them. -/
theorem Mine.cells_ {w : World} {B : Nat} {A : Option Addr} {c : Nat} {l : List Nat} (h : Mine 5 w B A c l) (h0 : 0 < l.length) : ∃ g off, A = some ⟨g, off, none⟩ ∧ g < w.heap.size ∧ ∀ j, j < l.length → w.cell? ⟨g, off + j, none⟩ = some (.int .u8 ((l.getD j 0 : Nat) : Int)) := h.rd.2.2 h0
def WholeOk (x kn : Nat) (b : List Nat) : Bool := heldOk x kn 2 && giOk b
end Go.Proofs.YtbkjjhpnjfdlbaaGreatDoor
