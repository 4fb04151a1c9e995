/-
  A product of two digits of 2^64, in two.
-/
import Derived.Test.YtflfdglpljodbaaDoorGRead
import Derived.Test.YtflfdglpljodbaaDoorChecked
import Derived.WalkSpells
import Derived.WalkLawsBesides
import Derived.Outline
import Derived.IntWalk
import Derived.Shelf.Bits.Mul64
set_option maxRecDepth 100000
set_option maxHeartbeats 2000000
namespace Go.Proofs.YtflfdglpljodbaaDoor
open Go.RowKit
set_option linter.unusedVariables false
theorem mul64_any (x y:Nat) (hx:x<18446744073709551616) (hy:y<18446744073709551616) (w:World) :
  Calls Tryd.prog 101 #[.int .u64 x,.int .u64 y] w fun e w'=>e = .returned (.tuple #[.int .u64 ((x*y / 18446744073709551616:Nat):Int),.int .u64 ((x*y % 18446744073709551616:Nat):Int)])∧w=w':=by
 obtain ⟨l1,l2,l3,hi⟩:=Lib.mul64_hi x y hx hy
 have m1:=Lib.half_mul_le (a:=x / 4294967296) (b:=y / 4294967296) (by omega) (by omega)
 have m2:=Lib.half_mul_le (a:=x / 4294967296) (b:=y % 4294967296) (by omega) (by omega)
 have m3:=Lib.half_mul_le (a:=x % 4294967296) (b:=y / 4294967296) (by omega) (by omega)
 have n1:x / 4294967296*(y / 4294967296)<18446744073709551616:=by omega
 have n2:x / 4294967296*(y % 4294967296)<18446744073709551616:=by omega
 have n3:x % 4294967296*(y / 4294967296)<18446744073709551616:=by omega
 have n4:x / 4294967296*(y / 4294967296)+(x / 4294967296*(y % 4294967296)+x % 4294967296*(y % 4294967296) / 4294967296) / 4294967296<18446744073709551616:=by omega
 have n5:x / 4294967296*(y / 4294967296)+(x / 4294967296*(y % 4294967296)+x % 4294967296*(y % 4294967296) / 4294967296) / 4294967296+((x / 4294967296*(y % 4294967296)+x % 4294967296*(y % 4294967296) / 4294967296) % 4294967296+x % 4294967296*(y / 4294967296)) / 4294967296<18446744073709551616:=by omega
 go_enter Tryd.func101,Tryd.ntmps101
 go_wp2
 simp only [Mul64.maskN x hx,Mul64.maskN y hy,Mul64.divN,Mul64.mulN,Mul64.addN,Mul64.wrapN _ l1,Mul64.wrapN _ n2,Mul64.wrapN _ l2,Mul64.maskN _ l2,Mul64.wrapN _ n3,Mul64.wrapN _ l3,Mul64.wrapN _ n1,Mul64.wrapN _ n4,Mul64.wrapN _ n5,Mul64.wrapM (x*y)]
 rw [hi]
 go_ret2
 exact ⟨rfl,rfl⟩
end Go.Proofs.YtflfdglpljodbaaDoor
