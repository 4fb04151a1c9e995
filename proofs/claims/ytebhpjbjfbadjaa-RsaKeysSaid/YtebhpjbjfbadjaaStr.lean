/-
  Bytes as a text; bytes compared.
-/
import Derived.Test.YtebhpjbjfbadjaaChecked
import Derived.WalkKit
import Derived.WalkSpells
import Derived.WalkLawsBesides
import Derived.Outline
import Derived.BigQuiet
import Derived.Deep.QuietTactic
import Derived.IntWalk
import Derived.Test.YtebhpjbjfbadjaaMem
import Derived.Test.YtebhpjbjfbadjaaRead
import Derived.Test.YtebhpjbjfbadjaaOwn
import Derived.Test.YtebhpjbjfbadjaaNatA
import Derived.Laws.IdiomStrings
import Derived.Laws.BytesArg
import Derived.Lib.Strings
namespace Go.Proofs.Ytebhpjbjfbadjaa
open Go.RowKit
set_option linter.unusedVariables false

theorem str_inj {l l' : List Nat} (h : ∀ x ∈ l, x < 256) (h' : ∀ x ∈ l', x < 256) (e : str l = str l') : l = l' := by
  have e1 : l.map UInt8.ofNat = l'.map UInt8.ofNat := by
    have := congrArg (fun b : ByteArray => b.data.toList) e
    simpa [str] using this
  have e2 : (l.map UInt8.ofNat).map UInt8.toNat = (l'.map UInt8.ofNat).map UInt8.toNat := by rw [e1]
  have e3 : ∀ m : List Nat, (∀ x ∈ m, x < 256) → (m.map UInt8.ofNat).map UInt8.toNat = m := by
    intro m hm
    rw [List.map_map]
    conv => rhs; rw [← List.map_id m]
    apply List.map_congr_left
    intro x hx
    simp [Nat.mod_eq_of_lt (hm x hx)]
  rw [e3 l h, e3 l' h'] at e2
  exact e2
/-- Bytes that are such. -/
def Oct8 (l : List Nat) : Prop := ∀ x ∈ l, x < 256

theorem str_ne {l l' : List Nat} (ho : Oct8 l) (ho' : Oct8 l') (h : l ≠ l') : ((str l).toList == (str l').toList) = false := by
  rw [beq_eq_false_iff_ne, Lib.toList_data, Lib.toList_data]
  intro e
  exact h (str_inj ho ho' (by unfold str at e ⊢; simp at e; simp [e]))
theorem str_same (l : List Nat) : ((str l).toList == (str l).toList) = true := beq_self_eq_true _

set_option maxRecDepth 100000 in
theorem equal_yes (w : World) (B B' : Nat) (A A' : Option Addr) (c c' n : Nat) (l : List Nat) (hn : l.length = n) (hr : Rd .u8 w B A c l) (hr' : Rd .u8 w B' A' c' l) (ho : Oct8 l) :
    Calls Try.prog 29 #[.slice A n c, .slice A' n c'] w fun e w' => e = .returned (.bool true) ∧ w = w' := by
  have h1 := conv_str hr hn ho
  have h2 := conv_str hr' hn ho
  clear hn
  generalize str l = s at *
  go_enter Try.func29, Try.ntmps29
  go_wp2_with fail
  go_ret
  exact ⟨by simp, rfl⟩
set_option maxRecDepth 100000 in
theorem equal_no (w : World) (B B' : Nat) (A A' : Option Addr) (c c' n n' : Nat) (l l' : List Nat) (hn : l.length = n) (hn' : l'.length = n') (hr : Rd .u8 w B A c l) (hr' : Rd .u8 w B' A' c' l') (ho : Oct8 l) (ho' : Oct8 l') (hne : l ≠ l') :
    Calls Try.prog 29 #[.slice A n c, .slice A' n' c'] w fun e w' => e = .returned (.bool false) ∧ w = w' := by
  have h1 := conv_str hr hn ho
  have h2 := conv_str hr' hn' ho'
  have h4 := str_ne ho ho' hne
  clear hn hn' hne
  generalize str l = s at *
  generalize str l' = s' at *
  go_enter Try.func29, Try.ntmps29
  go_wp2_with fail
  go_ret
  exact ⟨rfl, rfl⟩

end Go.Proofs.Ytebhpjbjfbadjaa
