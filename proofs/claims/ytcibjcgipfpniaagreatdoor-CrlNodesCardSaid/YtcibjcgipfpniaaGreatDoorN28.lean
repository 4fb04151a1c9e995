/- Words and laws for the statement, part 28. -/
import Derived.Test.YtcibjcgipfpniaaGreatDoorN24
import Derived.Test.YtcibjcgipfpniaaGreatDoorN27
namespace Go.Proofs.YtcibjcgipfpniaaGreatDoor
open Go.RowKit
set_option linter.unusedVariables false
set_option linter.unusedSimpArgs false
attribute [local go_sem ↓] Go.wp_at_zero Go.wp_at_succ

theorem GetDPost.one {w w':World} {T:Tr} {e:Ending} (h:GetDPost w T e w'):∃ (A:Option Addr) (c:Nat) (l:List Att) (ok:Bool),e = .returned (.tuple #[.slice A l.length c,.bool ok])∧RdA w' w'.heap.size A c l∧(l=[]∨dnOk l=true)∧(∀ l2:List Att,dnOk l2=true→dnTr l2=T→l=l2)∧Below w.heap.size w w':=by
 obtain ⟨A,c,l,h1,h2,h3,h4,h5⟩ | ⟨h1,h2,h3⟩:=h
 ·exact ⟨A,c,l,true,h1,h2,.inr h3,fun l2 a b=>dnTr_inj h3 a (by rw [h4,b]),h5⟩
 ·exact ⟨none,0,[],false,h1,⟨Nat.le_refl _,by omega,fun h=>by simp at h⟩,.inl rfl,fun l2 a b=>absurd b (h2 l2 a),h3⟩
def FitC2 (t:Tr):Prop:=t.kids.length≤100000∧∀ k∈t.kids,k.kids.length≤100000∧k.body.length≤900000∧∀ q∈k.kids,FitG q∧FitS q∧Fit3 q∧FitB q
end Go.Proofs.YtcibjcgipfpniaaGreatDoor
