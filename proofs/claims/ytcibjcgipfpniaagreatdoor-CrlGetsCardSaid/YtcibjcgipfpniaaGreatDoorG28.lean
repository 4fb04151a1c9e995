/- Words and laws for the statement, part 28. -/
import Derived.StillTailTactics
import Derived.Test.YtcibjcgipfpniaaGreatDoorG02
namespace Go.Proofs.YtcibjcgipfpniaaGreatDoor
open Go.RowKit
set_option linter.unusedVariables false
attribute [local go_sem ↓] Go.wp_at_zero Go.wp_at_succ

/-- Block g is words of which the first k are the block's. -/
def WT (s:StS) (l:List Nat) (w:World) (B:Nat) (A:Option Addr) (c k:Nat) (wr:World):Prop :=
 ∃ L:List Nat,Row .u32 124 wr (w.heap.size+2) L∧L.length=64∧Hid (L.take k=sched l k)∧M32 L∧Row .u32 95 wr w.heap.size s.list∧Holds wr (w.heap.size+1) 95 #[Value.int IntKind.u32 0,Value.int IntKind.u32 0,Value.int IntKind.u32 0,Value.int IntKind.u32 0,Value.int IntKind.u32 0,Value.int IntKind.u32 0,Value.int IntKind.u32 0,Value.int IntKind.u32 0]∧Rd .u8 wr B A c l∧Below w.heap.size w wr
def RelWS' (s:StS) (l:List Nat) (w:World) (B:Nat) (A:Option Addr) (c n:Nat) (i:Value) (wr:World):Prop :=
 ∃ k:Nat,k≤n∧i = .int .i64 k∧WT s l w B A c k wr
def RelX' (s:StS) (l:List Nat) (w:World) (B:Nat) (A:Option Addr) (c:Nat) (i:Value) (wr:World):Prop :=
 ∃ k:Nat,16≤k∧k≤64∧i = .int .i64 k∧WT s l w B A c k wr
/-- A round is begun. -/
def RelR' (s:StS) (l:List Nat) (w:World) (g5 g6:Nat) (i:Value) (wr:World):Prop :=
 ∃ k:Nat,k≤64∧i = .int .i64 k∧Row .u32 95 wr g6 (rounds6 s (sched l 64) k).list∧Row .u32 124 wr (w.heap.size+2) (sched l 64)∧Row .u32 124 wr g5 KL∧Row .u32 95 wr w.heap.size s.list∧Holds wr (w.heap.size+1) 95 #[Value.int IntKind.u32 0,Value.int IntKind.u32 0,Value.int IntKind.u32 0,Value.int IntKind.u32 0,Value.int IntKind.u32 0,Value.int IntKind.u32 0,Value.int IntKind.u32 0,Value.int IntKind.u32 0]∧Below w.heap.size w wr

end Go.Proofs.YtcibjcgipfpniaaGreatDoor
