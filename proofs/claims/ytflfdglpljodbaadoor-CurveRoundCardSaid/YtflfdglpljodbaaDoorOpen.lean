/-
  From the row's own reading of an argument that is a slice of unsigned numbers to the word that the walks use.
-/
import Derived.Test.YtflfdglpljodbaaDoorRead
import Derived.OpenShut
namespace Go.Proofs.YtflfdglpljodbaaDoor
open Go.RowKit Go.ChangeShapes

theorem rd_of_row {k : IntKind} {m : Nat} (hk : ∀ n : Int, (Lit.int k n).wf = true → 0 ≤ n ∧ n < (m : Int)) {w : World} {a : Option Addr} {len cap : Nat} {zs : List Int}
    (h : (a = none ∧ len = 0 ∧ cap = 0 ∧ zs = []) ∨
      ∃ x, a = some x ∧ len ≤ cap ∧ cap ≤ maxLen ∧ zs.length = cap ∧ (∀ i, i < zs.length → w.cell? (x.add i) = some (.int k (zs.getD i 0))) ∧ ∀ n ∈ zs, (Lit.int k n).wf = true) :
    ∃ l : List Nat, l.length = len ∧ Rd k w w.heap.size a cap l ∧ ∀ x ∈ l, x < m := by
  rcases h with ⟨rfl, rfl, rfl, rfl⟩ | ⟨x, rfl, hl, hm, hz, hc, hwf⟩
  · exact ⟨[], rfl, Rd.nil_ k w _, fun x hx => by cases hx⟩
  · refine ⟨(zs.take len).map Int.toNat, by simp; omega, ⟨by simp; omega, by unfold maxLen at hm; exact hm, fun hn => ?_⟩, fun y hy => ?_⟩
    · have h0 : 0 < zs.length := by simp at hn; omega
      obtain ⟨b, off, sp⟩ := x
      have hc0 := hc 0 h0
      have hsp : sp = none := by simpa [Addr.add] using World.cell?_spot hc0
      subst hsp
      have hadd : ∀ j, (⟨b, off, none⟩ : Addr).add j = ⟨b, off + j, none⟩ := fun j => by unfold Addr.add; split <;> simp_all
      refine ⟨b, off, rfl, ?_, fun j hj => ?_⟩
      · have := World.block_lt_of_cell? w _ hc0
        rw [hadd] at this
        exact this
      · have hj' : j < len ∧ j < zs.length := by simp at hj; omega
        rw [← hadd, hc j hj'.2]
        have hw := (hk zs[j] (hwf _ (List.getElem_mem hj'.2))).1
        simp [List.getD, hj'.1, hj'.2, Int.toNat_of_nonneg hw]
    · obtain ⟨z, hz', rfl⟩ := List.mem_map.1 hy
      have := hk z (hwf z (List.mem_of_mem_take hz'))
      omega
theorem wf_u8 (n : Int) (h : (Lit.int .u8 n).wf = true) : 0 ≤ n ∧ n < ((256 : Nat) : Int) := by
  have := bounds_u8 h
  omega
theorem wf_u32 (n : Int) (h : (Lit.int .u32 n).wf = true) : 0 ≤ n ∧ n < ((4294967296 : Nat) : Int) := by
  have := bounds_u32 h
  omega
end Go.Proofs.YtflfdglpljodbaaDoor
