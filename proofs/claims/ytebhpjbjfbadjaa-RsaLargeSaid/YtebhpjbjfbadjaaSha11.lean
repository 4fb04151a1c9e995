/-
  The known digest, by hand; bytes as a text.
-/
import Derived.Test.YtebhpjbjfbadjaaSha10
import Derived.Test.YtebhpjbjfbadjaaStr
import Derived.Laws.IdiomStrings
import Derived.Laws.BytesArg
import Derived.Lib.Strings
import Derived.Lib.SlBytesConst
import Derived.Lib.SmallJoins
namespace Go.Proofs.Ytebhpjbjfbadjaa
open Go.RowKit
set_option linter.unusedVariables false
attribute [local go_sem ↓] Go.wp_at_zero Go.wp_at_succ

theorem oct6_of {l : List Nat} (h : ∀ x ∈ l, x < 256) : Oct6 l := fun i => by
  rcases Nat.lt_or_ge i l.length with hi | hi
  · rw [List.getD, List.getElem?_eq_getElem hi]; exact h _ (List.getElem_mem hi)
  · rw [List.getD, List.getElem?_eq_none hi]; exact (by decide : (0 : Nat) < 256)
/-- A call with one row. -/
theorem rdR_one {W : World} {A : Option Addr} {c : Nat} {l : List Nat} (hr : Rd .u8 W W.heap.size A c l) (e : TypeId) : RdR (W.alloc (.cells #[.slice A l.length c] e)) (W.heap.size + 1) (some ⟨W.heap.size, 0, none⟩) 1 [⟨A, c, l⟩] := by
  have hb : Below W.heap.size W (W.alloc (.cells #[.slice A l.length c] e)) := (Below.refl _ _).alloc (Nat.le_refl _) _
  refine ⟨Nat.le_refl _, by decide, fun j hj => ?_, fun _ => ⟨W.heap.size, 0, rfl, Nat.lt_succ_self _, fun j hj => ?_⟩⟩
  · obtain rfl : j = 0 := by simpa using hj
    exact (hr.under hb).more (Nat.le_succ _)
  · obtain rfl : j = 0 := by simpa using hj
    rw [cell_of_row _ _ _ _ e (0, 0) (heap_alloc_new W _)]
    rfl
theorem rd_const (W : World) (e : TypeId) (l : List Nat) (fr : Nat × Nat) (h63 : l.length ≤ 9223372036854775807) : Rd .u8 (W.alloc (.cells (bvals l).toArray e fr)) (W.heap.size + 1) (some ⟨W.heap.size, 0, none⟩) l.length l :=
  ⟨Nat.le_refl _, h63, fun _ => ⟨W.heap.size, 0, rfl, Nat.lt_succ_self _, fun j hj => by
    rw [cell_of_row _ _ _ _ e fr (heap_alloc_new W _), Nat.zero_add, List.getElem?_toArray]
    exact bvals_at l hj⟩⟩
end Go.Proofs.Ytebhpjbjfbadjaa
