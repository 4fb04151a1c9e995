/- Words and laws for the statement, part 32. -/
import Derived.OwnWalk
import Derived.Deep.RegionLaw
import Derived.Deep.RegionHeld3
import Derived.Deep.DrawnRows
import Derived.Test.YtcibjcgipfpniaaGreatDoorN15
import Derived.Test.YtcibjcgipfpniaaGreatDoorN31
namespace Go.Proofs.YtcibjcgipfpniaaGreatDoor
open Go.RowKit
set_option linter.unusedVariables false
set_option linter.unusedSimpArgs false

/-- A length as it is written, whatever is behind it. -/
def szOf:List Nat→Option (Nat×Nat)
 | []=>none
 | x :: r=>if x<128 then some (x,1) else if x=128∨132<x∨r.length<x - 128 then none
  else if lenB (big (r.take (x - 128)))=x :: r.take (x - 128) then some (big (r.take (x - 128)),x - 127) else none
def SizePost (w:World):Option (Nat×Nat)→Ending→World→Prop
 | none,e,w'=>∃ k u:Int,e = .returned (.tuple #[.int .i64 k,.int .i64 u,.bool false])∧Below w.heap.size w w'
 | some (k,u),e,w'=>e = .returned (.tuple #[.int .i64 (k:Int),.int .i64 (u:Int),.bool true])∧Below w.heap.size w w'
def RelSz (m:Nat) (r:List Nat) (w:World) (v i:Value) (wr:World):Prop :=
 ∃ p z:Nat,1≤p∧p≤m+1∧i = .int .i64 (p:Int)∧v = .int .i64 (z:Int)∧z<256 ^ (p - 1)∧Hid (z=big (r.take (p - 1)))∧wr=w
end Go.Proofs.YtcibjcgipfpniaaGreatDoor
