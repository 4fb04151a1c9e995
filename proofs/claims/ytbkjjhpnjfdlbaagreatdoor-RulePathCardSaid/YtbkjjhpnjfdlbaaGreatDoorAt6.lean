/-
  A small number's thing: by atom, and by the document.
-/
import Derived.Test.YtbkjjhpnjfdlbaaGreatDoorAt5
namespace Go.Proofs.YtbkjjhpnjfdlbaaGreatDoor
open Go.RowKit
set_option linter.unusedVariables false
set_option linter.unusedSimpArgs false

/-- A number below 2^64 as eight bytes, the highest first. -/
def be8 (v : Nat) : List Nat := [v / 72057594037927936 % 256, v / 281474976710656 % 256, v / 1099511627776 % 256, v / 4294967296 % 256, v / 16777216 % 256, v / 65536 % 256, v / 256 % 256, v % 256]
/-- As digits. -/
def dg2 (v : Nat) : List Nat := trl [v % 4294967296, v / 4294967296]
theorem be8_num {v : Nat} (h : v < 18446744073709551616) : numOf (be8 v) = dg2 v := by
  have e : words (be8 v) = [v % 4294967296, v / 4294967296] := by
    refine (words_eq (L := [v % 4294967296, v / 4294967296]) (by simp [be8]) fun j hj => ?_).symm
    have hj2 : j = 0 ∨ j = 1 := by simp at hj; omega
    rcases hj2 with rfl | rfl
    · simp [be8, part]; omega
    · simp [be8, part]; omega
  rw [numOf_near (by simp [be8]), e]; rfl
theorem be8_oct (v : Nat) : ∀ x ∈ be8 v, x < 256 := fun x hx => by
  simp only [be8, List.mem_cons, List.not_mem_nil, or_false] at hx
  rcases hx with rfl | rfl | rfl | rfl | rfl | rfl | rfl | rfl <;> exact Nat.mod_lt _ (by omega)
theorem be8_take {v k x : Nat} (h : k < 8) (hx : x = v / 2 ^ (56 - 8 * k) % 256) : (be8 v).take (k + 1) = (be8 v).take k ++ [x] := by
  subst hx
  have hk : k = 0 ∨ k = 1 ∨ k = 2 ∨ k = 3 ∨ k = 4 ∨ k = 5 ∨ k = 6 ∨ k = 7 := by omega
  rcases hk with rfl | rfl | rfl | rfl | rfl | rfl | rfl | rfl <;> simp [be8]
end Go.Proofs.YtbkjjhpnjfdlbaaGreatDoor
