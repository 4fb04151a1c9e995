/-
  Whether two rows of bytes are one, by bytes.Equal.
-/
import Derived.Test.YtebhpjbjfbadjaaStr
namespace Go.Proofs.Ytebhpjbjfbadjaa
open Go.RowKit
set_option linter.unusedVariables false

theorem equalB (w : World) (A A' : Option Addr) (c c' n n' : Nat) (l l' : List Nat) (hn : l.length = n) (hn' : l'.length = n') (hr : Rd .u8 w w.heap.size A c l) (hr' : Rd .u8 w w.heap.size A' c' l') (ho : ∀ x ∈ l, x < 256) (ho' : ∀ x ∈ l', x < 256) :
    Calls Try.prog 29 #[.slice A n c, .slice A' n' c'] w fun e w' => e = .returned (.bool (decide (l = l'))) ∧ w = w' := by
  by_cases h : l = l'
  · subst h
    obtain rfl : n = n' := by rw [← hn, ← hn']
    rw [decide_eq_true rfl]
    exact equal_yes w _ _ A A' c c' n l hn hr hr' ho
  · rw [decide_eq_false h]
    exact equal_no w _ _ A A' c c' n n' l l' hn hn' hr hr' ho ho' h
end Go.Proofs.Ytebhpjbjfbadjaa
