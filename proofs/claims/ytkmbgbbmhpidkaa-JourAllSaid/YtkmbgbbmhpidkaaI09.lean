/- Words and laws for the statement, part 9. -/
import Derived.Test.YtkmbgbbmhpidkaaI08
namespace Go.Proofs.Ytkmbgbbmhpidkaa
open Go.RowKit Go.Shelf
set_option linter.unusedVariables false
set_option linter.unusedSimpArgs false
attribute [local go_sem ↓] Go.wp_at_zero Go.wp_at_succ

section
variable {w:World} {F:Nat→Prop} {gx:Nat} {s:Dk}
end
end Go.Proofs.Ytkmbgbbmhpidkaa
