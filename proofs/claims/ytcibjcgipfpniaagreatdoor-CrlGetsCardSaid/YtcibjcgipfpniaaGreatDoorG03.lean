/- Words and laws for the statement, part 3. -/
import Derived.Deep.RegionHeld3
import Derived.Test.YtcibjcgipfpniaaGreatDoorG01
import Derived.Test.YtcibjcgipfpniaaGreatDoorG02
namespace Go.Proofs.YtcibjcgipfpniaaGreatDoor
open Go.RowKit
set_option linter.unusedVariables false
set_option linter.unusedSimpArgs false

mutual
/-- A thing's bytes. -/
def Tr.enc:Tr→List Nat
 | .mk tag body kids=>tag :: (lenB (body.length+(Tr.encs kids).length) ++ (body ++ Tr.encs kids))
def Tr.encs:List Tr→List Nat
 | []=>[]
 | x :: r=>x.enc ++ Tr.encs r
end
theorem Mine.less {e:TypeId} {w:World} {B B':Nat} {A:Option Addr} {c:Nat} {l:List Nat} (h:Mine e w B A c l) (hB:B'≤B):Mine e w B' A c l:=by
 rcases h with h | ⟨g,off,cur,e1,hBg,rest⟩
 ·exact .inl h
 ·exact .inr ⟨g,off,cur,e1,by omega,rest⟩
theorem Mine.fresh0 (w:World) (B:Nat) (hB:B≤w.heap.size):Mine 5 (w.alloc (.cells #[] 5)) B (some ⟨w.heap.size,0,none⟩) 0 [] :=
 .inr ⟨w.heap.size,0,#[],rfl,hB,Holds.fresh w _ _,Nat.le_refl _,by omega,by simp,fun j hj=>by simp at hj⟩

def RelE (w:World) (cs:Array Value) (body:List Nat) (l:List Tr) (n:Nat) (v i:Value) (wr:World):Prop :=
 ∃ (k:Nat) (A':Option Addr) (c' m:Nat),k≤n∧i = .int .i64 k∧v = .slice A' m c'∧Hid ((body ++ Tr.encs (l.take k)).length=m)∧Hid (Mine 5 wr (w.heap.size+1) A' c' (body ++ Tr.encs (l.take k)))∧Hid (Below w.heap.size w wr)∧Hid (Holds wr w.heap.size 32 cs)
end Go.Proofs.YtcibjcgipfpniaaGreatDoor
