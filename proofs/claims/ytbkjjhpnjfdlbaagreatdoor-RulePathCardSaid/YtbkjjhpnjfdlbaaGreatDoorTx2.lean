/-
  One rune, by the document's own text.
-/
import Derived.Test.YtbkjjhpnjfdlbaaGreatDoorTx1
namespace Go.Proofs.YtbkjjhpnjfdlbaaGreatDoor
open Go.RowKit BigFrame
set_option linter.unusedVariables false
set_option linter.unusedSimpArgs false
attribute [local go_sem ↓] Go.wp_at_zero Go.wp_at_succ

theorem vv_lt {v0 x1 x2 x3 k : Nat} (h : v0 < 32) : vv v0 x1 x2 x3 k < 8388608 := by
  unfold vv
  have := Nat.mod_lt x1 (show 0 < 64 by omega)
  have := Nat.mod_lt x2 (show 0 < 64 by omega)
  have := Nat.mod_lt x3 (show 0 < 64 by omega)
  (repeat' split) <;> omega
theorem vv_succ (v0 x1 x2 x3 k : Nat) (h1 : 1 ≤ k) (h3 : k ≤ 3) : vv v0 x1 x2 x3 (k + 1) = vv v0 x1 x2 x3 k * 64 + (if k = 1 then x1 else if k = 2 then x2 else x3) % 64 := by
  rcases (by omega : k = 1 ∨ k = 2 ∨ k = 3) with rfl | rfl | rfl <;> rfl
def RunePost (w : World) (r : Nat) (e : Ending) (w' : World) : Prop := e = .returned (.int .i64 (r : Int)) ∧ Below w.heap.size w w'
theorem RunePost.of {w w' : World} {r k : Nat} {e : Ending} (h : e = .returned (.int .i64 (k : Int))) (hr : r = k) (hb : Below w.heap.size w w') : RunePost w r e w' := ⟨by rw [h, hr], hb⟩
end Go.Proofs.YtbkjjhpnjfdlbaaGreatDoor
