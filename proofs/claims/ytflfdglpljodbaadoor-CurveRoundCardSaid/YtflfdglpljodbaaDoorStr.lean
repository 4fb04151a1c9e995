/-
  Bytes as a text; bytes compared.
-/
import Derived.Test.YtflfdglpljodbaaDoorChecked
import Derived.WalkKit
import Derived.WalkSpells
import Derived.WalkLawsBesides
import Derived.Outline
import Derived.BigQuiet
import Derived.Deep.QuietTactic
import Derived.IntWalk
import Derived.Test.YtflfdglpljodbaaDoorMem
import Derived.Test.YtflfdglpljodbaaDoorRead
import Derived.Test.YtflfdglpljodbaaDoorOwn
import Derived.Laws.IdiomStrings
import Derived.Laws.BytesArg
import Derived.Lib.Strings
namespace Go.Proofs.YtflfdglpljodbaaDoor
open Go.RowKit
set_option linter.unusedVariables false

/-- Bytes as a text. -/
def str (l : List Nat) : ByteArray := ⟨(l.map UInt8.ofNat).toArray⟩
theorem str_inj {l l' : List Nat} (h : ∀ x ∈ l, x < 256) (h' : ∀ x ∈ l', x < 256) (e : str l = str l') : l = l' := by
  have e1 : l.map UInt8.ofNat = l'.map UInt8.ofNat := by
    have := congrArg (fun b : ByteArray => b.data.toList) e
    simpa [str] using this
  have e2 : (l.map UInt8.ofNat).map UInt8.toNat = (l'.map UInt8.ofNat).map UInt8.toNat := by rw [e1]
  have e3 : ∀ m : List Nat, (∀ x ∈ m, x < 256) → (m.map UInt8.ofNat).map UInt8.toNat = m := by
    intro m hm
    rw [List.map_map]
    conv => rhs; rw [← List.map_id m]
    apply List.map_congr_left
    intro x hx
    simp [Nat.mod_eq_of_lt (hm x hx)]
  rw [e3 l h, e3 l' h'] at e2
  exact e2
theorem conv_str {w : World} {B : Nat} {A : Option Addr} {c n : Nat} {l : List Nat} (hr : Rd .u8 w B A c l) (hn : l.length = n) (h : ∀ x ∈ l, x < 256) : (convert 46 9 (.slice A n c)).run Tryd.prog w = .ok (.string (str l)) w := by
  subst hn
  rcases Nat.eq_zero_or_pos l.length with h0 | h0
  · obtain rfl := List.eq_nil_of_length_eq_zero h0
    rcases A with _ | a
    · exact run_convert_bytes_nil w 46 5 Tryd.underlying46 Tryd.underlying5 0 c 9 Tryd.underlying9
    · exact run_convert_bytes_back w 46 9 5 a c [] Tryd.underlying46 Tryd.underlying5 Tryd.underlying9 (fun j hj => by simp at hj)
  · obtain ⟨b, off, rfl, hb, hc⟩ := hr.2.2 h0
    have hh := run_convert_bytes_back w 46 9 5 ⟨b, off, none⟩ c (l.map UInt8.ofNat) Tryd.underlying46 Tryd.underlying5 Tryd.underlying9 (fun j hj => by
      have hj' : j < l.length := by simpa using hj
      have e := hc j hj'
      have ha : (⟨b, off, none⟩ : Addr).add j = ⟨b, off + j, none⟩ := by unfold Addr.add; split <;> simp_all
      rw [ha, e]
      have hx := h l[j] (List.getElem_mem hj')
      simp [List.getD, hj', Nat.mod_eq_of_lt hx])
    rwa [List.length_map] at hh

/-- Bytes that are such. -/
def Oct8 (l : List Nat) : Prop := ∀ x ∈ l, x < 256

theorem str_ne {l l' : List Nat} (ho : Oct8 l) (ho' : Oct8 l') (h : l ≠ l') : ((str l).toList == (str l').toList) = false := by
  rw [beq_eq_false_iff_ne, Lib.toList_data, Lib.toList_data]
  intro e
  exact h (str_inj ho ho' (by unfold str at e ⊢; simp at e; simp [e]))
theorem str_same (l : List Nat) : ((str l).toList == (str l).toList) = true := beq_self_eq_true _

end Go.Proofs.YtflfdglpljodbaaDoor
