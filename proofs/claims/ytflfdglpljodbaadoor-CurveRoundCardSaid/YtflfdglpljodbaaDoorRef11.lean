/-
  The law of powers that go round, walked.
-/
import Derived.Test.YtflfdglpljodbaaDoorRefB
namespace Go.Proofs.YtflfdglpljodbaaDoor
open Go.RowKit
set_option linter.unusedVariables false

theorem such2_any (w : World) (A A' : Option Addr) (c c' : Nat) (l l' : List Nat) (hr : Rd .u32 w w.heap.size A c l) (hr' : Rd .u32 w w.heap.size A' c' l') (N : Nat) (hN : N ≤ 1000) :
    ∃ v : Bool, (v = true → okN l = true ∧ l.length ≤ N ∧ okN l' = true ∧ l'.length ≤ N) ∧
      Calls Tryd.prog 21 #[.int .i64 N, .slice (some ⟨w.heap.size, 0, none⟩) 2 2] (w.alloc (.cells #[.slice A l.length c, .slice A' l'.length c'] 24)) fun e w' => e = .returned (.bool v) ∧ w.alloc (.cells #[.slice A l.length c, .slice A' l'.length c'] 24) = w' := by
  have hbox := Holds.fresh w 24 #[.slice A l.length c, .slice A' l'.length c']
  have hb := (Below.refl w.heap.size w).alloc (Nat.le_refl _) (.cells #[.slice A l.length c, .slice A' l'.length c'] 24)
  have h1 := rd_next hr (Nat.le_refl _) hb
  have h2 := rd_next hr' (Nat.le_refl _) hb
  have go : ∀ v : Bool, (v = true ↔ ∀ j, j < 2 → okN (([⟨A, c, l⟩, ⟨A', c', l'⟩] : List It).getD j default).l = true ∧ (([⟨A, c, l⟩, ⟨A', c', l'⟩] : List It).getD j default).l.length ≤ N) → _ := fun v hv => such_any (w.alloc (.cells #[.slice A l.length c, .slice A' l'.length c'] 24)) N w.heap.size 2 [⟨A, c, l⟩, ⟨A', c', l'⟩] rfl (by omega) hN
    (fun j hj => by
      rcases (show j = 0 ∨ j = 1 by omega) with rfl | rfl
      · exact hbox.cell 0
      · exact hbox.cell 1)
    (fun j hj => by
      rcases (show j = 0 ∨ j = 1 by omega) with rfl | rfl
      · exact h1
      · exact h2) v hv
  by_cases h : ∀ j, j < 2 → okN (([⟨A, c, l⟩, ⟨A', c', l'⟩] : List It).getD j default).l = true ∧ (([⟨A, c, l⟩, ⟨A', c', l'⟩] : List It).getD j default).l.length ≤ N
  · exact ⟨true, fun _ => ⟨(h 0 (by omega)).1, (h 0 (by omega)).2, (h 1 (by omega)).1, (h 1 (by omega)).2⟩, go true ⟨fun _ => h, fun _ => rfl⟩⟩
  · exact ⟨false, (fun e => by cases e), go false ⟨(fun e => by cases e), fun e => absurd e h⟩⟩
theorem such1_any (w : World) (A : Option Addr) (c : Nat) (l : List Nat) (hr : Rd .u32 w w.heap.size A c l) (N : Nat) (hN : N ≤ 1000) :
    ∃ v : Bool, (v = true → okN l = true ∧ l.length ≤ N) ∧
      Calls Tryd.prog 21 #[.int .i64 N, .slice (some ⟨w.heap.size, 0, none⟩) 1 1] (w.alloc (.cells #[.slice A l.length c] 24)) fun e w' => e = .returned (.bool v) ∧ w.alloc (.cells #[.slice A l.length c] 24) = w' := by
  have hbox := Holds.fresh w 24 #[.slice A l.length c]
  have hb := (Below.refl w.heap.size w).alloc (Nat.le_refl _) (.cells #[.slice A l.length c] 24)
  have h1 := rd_next hr (Nat.le_refl _) hb
  have go : ∀ v : Bool, (v = true ↔ ∀ j, j < 1 → okN (([⟨A, c, l⟩] : List It).getD j default).l = true ∧ (([⟨A, c, l⟩] : List It).getD j default).l.length ≤ N) → _ := fun v hv => such_any (w.alloc (.cells #[.slice A l.length c] 24)) N w.heap.size 1 [⟨A, c, l⟩] rfl (by omega) hN
    (fun j hj => by
      obtain rfl : j = 0 := by omega
      exact hbox.cell 0)
    (fun j hj => by
      obtain rfl : j = 0 := by omega
      exact h1) v hv
  by_cases h : ∀ j, j < 1 → okN (([⟨A, c, l⟩] : List It).getD j default).l = true ∧ (([⟨A, c, l⟩] : List It).getD j default).l.length ≤ N
  · exact ⟨true, fun _ => h 0 (by omega), go true ⟨fun _ => h, fun _ => rfl⟩⟩
  · exact ⟨false, (fun e => by cases e), go false ⟨(fun e => by cases e), fun e => absurd e h⟩⟩

end Go.Proofs.YtflfdglpljodbaaDoor
