/-
  Whether two rows of bytes are one, by bytes.Equal.
-/
import Derived.Test.YtkmbgbbmhpidkaaJr2
namespace Go.Proofs.Ytkmbgbbmhpidkaa
open Go.RowKit
set_option linter.unusedVariables false

set_option maxRecDepth 100000 in
theorem equal_yes (w : World) (B B' : Nat) (A A' : Option Addr) (c c' n : Nat) (l : List Nat) (hn : l.length = n) (hr : Rd .u8 w B A c l) (hr' : Rd .u8 w B' A' c' l) (ho : Oct1 l) :
    Calls Try.prog 45 #[.slice A n c, .slice A' n c'] w fun e w' => e = .returned (.bool true) ∧ w = w' := by
  have h1 := conv_str hr hn ho
  have h2 := conv_str hr' hn ho
  clear hn
  generalize str l = s at *
  go_enter Try.func45, Try.ntmps45
  go_wp2_with fail
  go_ret
  exact ⟨by simp, rfl⟩
set_option maxRecDepth 100000 in
theorem equal_no (w : World) (B B' : Nat) (A A' : Option Addr) (c c' n n' : Nat) (l l' : List Nat) (hn : l.length = n) (hn' : l'.length = n') (hr : Rd .u8 w B A c l) (hr' : Rd .u8 w B' A' c' l') (ho : Oct1 l) (ho' : Oct1 l') (hne : l ≠ l') :
    Calls Try.prog 45 #[.slice A n c, .slice A' n' c'] w fun e w' => e = .returned (.bool false) ∧ w = w' := by
  have h1 := conv_str hr hn ho
  have h2 := conv_str hr' hn' ho'
  have h4 := str_ne ho ho' hne
  clear hn hn' hne
  generalize str l = s at *
  generalize str l' = s' at *
  go_enter Try.func45, Try.ntmps45
  go_wp2_with fail
  go_ret
  exact ⟨rfl, rfl⟩


theorem equalB (w : World) (A A' : Option Addr) (c c' n n' : Nat) (l l' : List Nat) (hn : l.length = n) (hn' : l'.length = n') (hr : Rd .u8 w w.heap.size A c l) (hr' : Rd .u8 w w.heap.size A' c' l') (ho : ∀ x ∈ l, x < 256) (ho' : ∀ x ∈ l', x < 256) :
    Calls Try.prog 45 #[.slice A n c, .slice A' n' c'] w fun e w' => e = .returned (.bool (decide (l = l'))) ∧ w = w' := by
  by_cases h : l = l'
  · subst h
    obtain rfl : n = n' := by rw [← hn, ← hn']
    rw [decide_eq_true rfl]
    exact equal_yes w _ _ A A' c c' n l hn hr hr' ho
  · rw [decide_eq_false h]
    exact equal_no w _ _ A A' c c' n n' l l' hn hn' hr hr' ho ho' h
end Go.Proofs.Ytkmbgbbmhpidkaa
