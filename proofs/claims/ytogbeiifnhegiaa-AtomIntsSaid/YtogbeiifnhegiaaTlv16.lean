/-
  A length, read: by the program.
-/
import Derived.Test.YtogbeiifnhegiaaTlv15
namespace Go.Proofs.Ytogbeiifnhegiaa
open Go.RowKit
set_option linter.unusedVariables false
set_option linter.unusedSimpArgs false

set_option maxRecDepth 100000 in
theorem i64_or8 (x c : Nat) (hx : x < 1000000) (hc : c < 256) : bits .or .i64 ((x : Int) * 256) (c : Int) = ((x * 256 + c : Nat) : Int) := by
  rw [bits_join .i64 62 (by decide) (fun n h0 h1 => IntWalk.i64_in n (by omega)) 8 ((x : Int) * 256) (c : Int) (by omega) (by omega) (by omega) (by omega) (by omega) (by omega)]
  push_cast
  rfl
def LenPost (w : World) (Br : Nat) (A : Option Addr) (n c : Nat) : Option (Nat × Nat) → Ending → World → Prop
  | none, e, w' => e = .returned (.tuple #[.int .i64 0, .bool false]) ∧ w' = w
  | some (k, u), e, w' => e = .returned (.tuple #[.int .i64 (k : Int), .bool true]) ∧ w' = w.setCell ⟨Br, 0, none⟩ (.slice (dropA A u c) (n - u) (c - u))
def RelRL (m : Nat) (rr : List Nat) (w : World) (v i : Value) (wr : World) : Prop :=
  ∃ j x : Nat, j ≤ m ∧ i = .int .i64 (j : Int) ∧ v = .int .i64 (x : Int) ∧ x ≤ 12000 ∧ Hid (x = big (rr.take j)) ∧ wr = w
end Go.Proofs.Ytogbeiifnhegiaa
