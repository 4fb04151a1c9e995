/- Words and laws for the statement, part 22. -/
import Derived.Test.YtcibjcgipfpniaaGreatDoorN18
import Derived.Test.YtcibjcgipfpniaaGreatDoorN20
import Derived.Test.YtcibjcgipfpniaaGreatDoorN21
namespace Go.Proofs.YtcibjcgipfpniaaGreatDoor
open Go.RowKit
set_option linter.unusedVariables false
set_option linter.unusedSimpArgs false
attribute [local go_sem ↓] Go.wp_at_zero Go.wp_at_succ

/-- Bodies that are small enough, two deep. -/
def FitB (t:Tr):Prop:=∀ k∈t.kids,∀ q∈k.kids,q.body.length≤900000
end Go.Proofs.YtcibjcgipfpniaaGreatDoor
