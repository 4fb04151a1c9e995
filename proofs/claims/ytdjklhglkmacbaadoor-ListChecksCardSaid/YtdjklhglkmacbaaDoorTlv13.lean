/-
  How many things a thing is: by the program.
-/
import Derived.Test.YtdjklhglkmacbaaDoorTlv12
namespace Go.Proofs.YtdjklhglkmacbaaDoor
open Go.RowKit Go.Shelf
set_option linter.unusedVariables false
set_option linter.unusedSimpArgs false
attribute [local go_sem] Oper.semAt_some

theorem passX_put {c1 c2 : Nat} (W : World) (l : Nat) (o o' : Obj) (hl : W.heap[l]? = some o) (ho : o.isCells = false) : PassX c1 c2 W (W.putObj l o') :=
  ⟨by simp [World.putObj], fun b k v _ _ hv => cell_kept hv (grownBy_putObj' W l o') (fun r e => by cases e; exact ⟨o, hl, ho⟩)⟩
theorem passX_set {c1 c2 : Nat} (W : World) (k : Nat) (v : Value) {c : Nat} (hc : c = c1 ∨ c = c2) : PassX c1 c2 W (W.setCell ⟨c, k, none⟩ v) :=
  ⟨by simp [World.setCell], fun b o u h1 h2 hu => by
    rw [World.cell?_of_block (Below.heap_setCell W ⟨c, k, none⟩ v b (by show b ≠ c; rcases hc with rfl | rfl <;> assumption))]
    exact hu⟩
theorem cell_new_b (W : World) (v : Value) (t : TypeId) : (W.alloc (.cells #[v] t)).cell? ⟨W.heap.size, 0, none⟩ = some v ∧ (W.alloc (.cells #[v] t)).frozen? ⟨W.heap.size, 0, none⟩ = false :=
  ⟨Holds.cell (Holds.fresh W t #[v]) 0, Holds.open_ (Holds.fresh W t #[v]) 0⟩
end Go.Proofs.YtdjklhglkmacbaaDoor
