/-
  A number's thing: by atom, and by the document.
-/
import Derived.Test.YtbdkopcmdefhoaaDoorAt4
namespace Go.Proofs.YtbdkopcmdefhoaaDoor
open Go.RowKit
set_option linter.unusedVariables false
set_option linter.unusedSimpArgs false

theorem okN_iff {l : List Nat} : okN l = true ↔ l.length ≤ 256 ∧ nrm l := by
  unfold okN nrm
  simp only [Bool.and_eq_true, Bool.or_eq_true, decide_eq_true_eq, Bool.not_eq_true', beq_eq_false_iff_ne]
theorem trl_self {l : List Nat} (h : nrm l) : trl l = l := by
  rw [trl, tlen_id l l.length h, List.take_length]
end Go.Proofs.YtbdkopcmdefhoaaDoor
