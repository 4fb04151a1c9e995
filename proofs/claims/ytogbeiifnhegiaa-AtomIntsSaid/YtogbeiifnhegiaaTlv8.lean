/-
  Which tags may be, which are of things with kids; whether a thing may be: by the document.
-/
import Derived.Test.YtogbeiifnhegiaaTlv7
namespace Go.Proofs.Ytogbeiifnhegiaa
open Go.RowKit
set_option linter.unusedVariables false
set_option linter.unusedSimpArgs false

def tagOk (x : Nat) : Bool := x != 0 && x % 32 != 31
def parted (x : Nat) : Bool := x / 32 % 2 == 1
theorem tag_all : ∀ x : Fin 256, (((x.val : Nat) : Int) != 0 && ((x.val : Nat) : Int) % 32 != 31) = tagOk x.val := by decide +kernel
theorem part_all : ∀ x : Fin 256, (Go.bits BinOp.and IntKind.u8 ((x.val : Nat) : Int) 32 != 0) = parted x.val := by decide +kernel
theorem tagged_is (x : Nat) (hx : x < 256) : (((x : Nat) : Int) != 0 && ((x : Nat) : Int) % 32 != 31) = tagOk x := tag_all ⟨x, hx⟩
theorem parted_is (x : Nat) (hx : x < 256) : (Go.bits BinOp.and IntKind.u8 ((x : Nat) : Int) 32 != 0) = parted x := part_all ⟨x, hx⟩
end Go.Proofs.Ytogbeiifnhegiaa
