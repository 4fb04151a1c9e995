/- Words and laws for the statement, part 21. -/
import Derived.Test.YtcibjcgipfpniaaGreatDoorN16
import Derived.Test.YtcibjcgipfpniaaGreatDoorN20
namespace Go.Proofs.YtcibjcgipfpniaaGreatDoor
open Go.RowKit
set_option linter.unusedVariables false
set_option linter.unusedSimpArgs false
attribute [local go_sem ↓] Go.wp_at_zero Go.wp_at_succ

end Go.Proofs.YtcibjcgipfpniaaGreatDoor
