/-
  The law of what was flushed.
-/
import Derived.Test.YtbenkffjfjddgaaDev12
namespace Go.Proofs.Ytbenkffjfjddgaa
open Go.RowKit
set_option linter.unusedVariables false

theorem law_flushed (w : World) (A1 A2 : Option Addr) (c1 c2 n1 n2 : Nat) (l1 l2 : List Nat) (hl1 : l1.length = n1) (hl2 : l2.length = n2) (hr1 : Rd .u8 w w.heap.size A1 c1 l1) (hr2 : Rd .u8 w w.heap.size A2 c2 l2) (ho1 : ∀ x ∈ l1, x < 256) (ho2 : ∀ x ∈ l2, x < 256) (k : Int) :
    Calls Try.prog 5 #[.slice A1 n1 c1, .slice A2 n2 c2, .int .i64 k] w fun e w' => e = .returned (.bool true) ∧ Below w.heap.size w w' := by
  by_cases h : 64 < n1 ∨ 64 < n2 ∨ k < 0 ∨ 5 < k
  · exact flushed_no w A1 A2 c1 c2 n1 n2 k h
  · obtain ⟨k, rfl⟩ : ∃ j : Nat, k = (j : Int) := ⟨k.toNat, by omega⟩
    exact flushed_yes w A1 A2 c1 c2 n1 n2 l1 l2 hl1 hl2 hr1 hr2 ho1 ho2 k (by omega) (by omega) (by omega)
end Go.Proofs.Ytbenkffjfjddgaa
