/- Words and laws for the statement, part 7. -/
import Derived.Handy
import Derived.Test.YtcibjcgipfpniaaGreatDoorN06
namespace Go.Proofs.YtcibjcgipfpniaaGreatDoor
open Go.RowKit
set_option linter.unusedVariables false
set_option linter.unusedSimpArgs false

def noNode:Value:=.agg #[.int .u8 0,.slice none 0 0,.slice none 0 0]
theorem grown_new {w V:World} {r:Option Nat} {p:Addr} (h:w.grownBy V r) (hp:w.heap.size≤p.block) (u:Value):w.grownBy (V.setCell p u) r :=
 ⟨h.os,h.tape,h.output,by show w.heap.size≤(V.heap.modify _ _).size;rw [Array.size_modify];exact h.size,fun g hg hne=>by
  rw [Below.heap_setCell V p u g (by omega)];exact h.block g hg hne⟩
def thingOf (x m:Nat):Except Nat (List Tr×Nat)→Except Nat (Tr×Nat×Nat)
 | .error e=>.error e
 | .ok (l,c)=>.ok (.mk x [] l,m,c)
def preT (ts:List Tr):Except Nat (List Tr×Nat)→Except Nat (List Tr×Nat)
 | .error e=>.error e
 | .ok (l,c)=>.ok (ts ++ l,c)
theorem Apart.less {w:World} {lo lo':Nat} {A:Option Addr} {l:List Lt} (h:Apart w lo A l) (hlo:lo'≤lo):Apart w lo' A l:=fun t ht=>by
 obtain ⟨a,b,h1,h2⟩:=h t ht
 exact ⟨a,b,by omega,h2⟩
def lenAt (Br:Nat) (w:World):Nat:=match w.cell? ⟨Br,0,none⟩ with
 | some (.slice _ n _)=>n
 | _=>0
section
variable {w V V':World} {B Br x:Nat} {A:Option Addr} {n c cnt:Nat} {L:List Nat} {bv kv:Value}
end
end Go.Proofs.YtcibjcgipfpniaaGreatDoor
