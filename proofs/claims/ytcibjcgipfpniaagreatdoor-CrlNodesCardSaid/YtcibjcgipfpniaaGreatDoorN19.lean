/- Words and laws for the statement, part 19. -/
import Derived.Test.YtcibjcgipfpniaaGreatDoorN18
namespace Go.Proofs.YtcibjcgipfpniaaGreatDoor
open Go.RowKit
set_option linter.unusedVariables false
attribute [local go_sem ↓] Go.wp_at_zero Go.wp_at_succ

/-- The time that these numbers say, as the document reckons it. -/
def sayR (Y F0:Nat) (f1 f2 f3 f4:Int):Int:=((num Y F0 1:Int) - 712163+f1 - 1)*86400+(f2*3600+f3*60+f4) - 631152000
/-- What is known of the numbers read, and what they must be of a time. -/
structure Read6 (tag:Nat) (b:List Nat) (nk:Nat) (y f0 f1 f2 f3 f4:Int):Prop where
 is:∀ t,IsTime tag b nk t→∃ x,IsDate t x∧1950≤x.y∧y=x.y∧f0=x.m∧f1=x.d∧f2=x.h∧f3=x.i∧f4=x.s
/-- What stands while the document reads: the thing, its body, the five numbers. -/
structure Mg (w W:World) (box:Array Value) (B bl off c:Nat) (b:List Nat) (cs:Array Value):Prop where
 box:Holds W w.heap.size 32 box
 f:Holds W (w.heap.size+1) 136 cs
 rd:Rd .u8 W B (some ⟨bl,off,none⟩) c b
 bel:Below w.heap.size w W
section
variable {w W W1:World} {box cs:Array Value} {B bl off c:Nat} {b:List Nat}
theorem Mg.drewN (h:Mg w W box B bl off c b cs) (n:Nat):Mg w (W.drewN n) box B bl off c b cs:=⟨h.box,h.f,h.rd,below_drewN h.bel n⟩
theorem Mg.set (h:Mg w W box B bl off c b cs) (hB:B≤w.heap.size) (i:Nat) (v:Value):Mg w (W.setCell ⟨w.heap.size+1,i,none⟩ v) box B bl off c b (cs.setIfInBounds i v) :=
 ⟨h.box.aside (by simp) _,h.f.stored i v,h.rd.keep (fun b' o' hb=>by rw [World.cell?_setCell_other];intro e;injection e with e1;omega),h.bel.setCell (by simp) _⟩
theorem Mg.under (h:Mg w W box B bl off c b cs) (hB:B≤w.heap.size) (hb:Below W.heap.size W W1):Mg w W1 box B bl off c b cs :=
 ⟨h.box.under hb (Holds.lt h.box),h.f.under hb (Holds.lt h.f),h.rd.under (hb.mono (by have:=Holds.lt h.f;omega)),h.bel.trans (hb.mono h.bel.size)⟩
end

end Go.Proofs.YtcibjcgipfpniaaGreatDoor
