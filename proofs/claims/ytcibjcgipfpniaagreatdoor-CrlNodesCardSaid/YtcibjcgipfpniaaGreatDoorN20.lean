/- Words and laws for the statement, part 20. -/
import Derived.Test.YtcibjcgipfpniaaGreatDoorN16
import Derived.Test.YtcibjcgipfpniaaGreatDoorN19
namespace Go.Proofs.YtcibjcgipfpniaaGreatDoor
open Go.RowKit
set_option linter.unusedVariables false
attribute [local go_sem ↓] Go.wp_at_zero Go.wp_at_succ

end Go.Proofs.YtcibjcgipfpniaaGreatDoor
namespace Go.Proofs.YtcibjcgipfpniaaGreatDoor
open Go.RowKit
set_option linter.unusedVariables false

theorem GetPost.one {w w1 w' w1':World} {tag:Nat} {b:List Nat} {nk:Nat} {e e':Ending} (h:GetPost w tag b nk e w') (h':GetPost w1 tag b nk e' w1'):e=e':=by
 obtain ⟨⟨t,ht,rfl⟩ | ⟨hn,rfl⟩,_⟩:=h <;> obtain ⟨⟨t',ht',rfl⟩ | ⟨hn',rfl⟩,_⟩:=h'
 ·rw [IsTime.one ht ht']
 ·exact absurd ht (hn' t)
 ·exact absurd ht' (hn t')
 ·rfl
end Go.Proofs.YtcibjcgipfpniaaGreatDoor
namespace Go.Proofs.YtcibjcgipfpniaaGreatDoor
open Go.RowKit
set_option linter.unusedVariables false
set_option linter.unusedSimpArgs false
attribute [local go_sem ↓] Go.wp_at_zero Go.wp_at_succ

end Go.Proofs.YtcibjcgipfpniaaGreatDoor
