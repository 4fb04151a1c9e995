/-
  Arguments opened: bytes, truths, rows of bytes.
-/
import Derived.Test.YtbenkffjfjddgaaOpen
import Derived.Test.YtbenkffjfjddgaaDev0
import Derived.ChangeSlices
import Derived.ChangeArms
import Derived.WideShapes
import Derived.Deep.Matrix
import Derived.Deep.Slices
namespace Go.Proofs.Ytbenkffjfjddgaa
open Go.RowKit Go.ChangeShapes Go.WideShapes
set_option linter.unusedVariables false

theorem rd1_open {H : Type} {enc : TypeId × Value → H} {w : World} {base : Nat} {held : Bool} {fuel : Nat} {v : Value} {x : DataW H × List MemPlace} (h : DataW.trod enc Try.prog w base (fun _ => true) held fuel 28 v.cells.toList = some x) (hv : ∃ a n c, v = .slice a n c) :
    ∃ (A : Option Addr) (n c : Nat) (l : List Nat), v = .slice A n c ∧ l.length = n ∧ Rd .u8 w w.heap.size A c l ∧ ∀ x ∈ l, x < 256 := by
  obtain ⟨a, n, c, rfl⟩ := hv
  rcases open_ints Try.underlying28 Try.underlying5 (by kernel_rfl) h with ⟨hcs, _⟩ | ⟨x, l, c', zs, hcs, _, hl, hm, hz, _, hcell, hwz⟩
  · simp [Value.cells] at hcs
    obtain ⟨rfl, rfl, rfl⟩ := hcs
    exact ⟨none, 0, 0, [], rfl, rfl, Rd.nil_ _ _ _, fun x hx => by cases hx⟩
  · simp [Value.cells] at hcs
    obtain ⟨rfl, rfl, rfl⟩ := hcs
    obtain ⟨b, h1, h2, h3⟩ := rd_of_row wf_u8 (w := w) (a := some x) (len := n) (cap := c) (zs := zs) (.inr ⟨x, rfl, hl, hm, by simpa using hz, hcell, hwz⟩)
    exact ⟨_, _, _, b, rfl, h1, h2, h3⟩
theorem list_of {α : Type} [Inhabited α] {P : Nat → α → Prop} : ∀ n, (∀ i, i < n → ∃ a, P i a) → ∃ l : List α, l.length = n ∧ ∀ i, i < n → P i (l.getD i default)
  | 0, _ => ⟨[], rfl, fun i h => absurd h (by omega)⟩
  | n + 1, h => by
    obtain ⟨l, hl, hp⟩ := list_of n (fun i hi => h i (by omega))
    obtain ⟨a, ha⟩ := h n (by omega)
    refine ⟨l ++ [a], by simp [hl], fun i hi => ?_⟩
    by_cases e : i = n
    · subst e
      have e2 : (l ++ [a]).getD i default = a := by simp [List.getD, ← hl]
      rw [e2]; exact ha
    · have e2 : (l ++ [a]).getD i default = l.getD i default := by simp [List.getD, List.getElem?_append_left (show i < l.length by omega)]
      rw [e2]; exact hp i (by omega)
theorem truths_open {H : Type} {enc : TypeId × Value → H} {w : World} {base : Nat} {sp : Nat → Bool} {held : Bool} {fuel : Nat} {v : Value} {x : DataW H × List MemPlace} (h : DataW.trod enc Try.prog w base sp held fuel 29 v.cells.toList = some x) (hv : ∃ a n c, v = .slice a n c) :
    ∃ (A : Option Addr) (n c : Nat) (l : List Bool), v = .slice A n c ∧ l.length = n ∧ Truths w A c l := by
  obtain ⟨a, n, c, rfl⟩ := hv
  rcases Deep.open_slice1 Try.underlying29 (by kernel_rfl) h with ⟨hcs, _⟩ | ⟨a', len, cap, m, n', V, D, Pl, hcs, _, hl, hm, hmm, _, hc⟩
  · simp [Value.cells] at hcs
    obtain ⟨rfl, rfl, rfl⟩ := hcs
    exact ⟨none, 0, 0, [], rfl, rfl, Truths.nil _⟩
  · simp [Value.cells] at hcs
    obtain ⟨rfl, rfl, rfl⟩ := hcs
    have hlm : n ≤ m := by rw [hmm]; split <;> omega
    obtain ⟨l, hln, hlp⟩ := list_of (P := fun i (t : Bool) => w.cell? (a'.add i) = some (.bool t)) n (fun i hi => by
      obtain ⟨h0, h1⟩ := hc i (by omega)
      obtain ⟨b, e, _⟩ := DataW.trod_bool Try.underlying4 h1
      obtain e' : V i = .bool b := by simpa using e
      exact ⟨b, by rw [h0, e']⟩)
    refine ⟨some a', n, c, l, rfl, hln, by omega, by unfold maxLen at hm; exact hm, fun hn => ?_⟩
    obtain ⟨b, off, sp'⟩ := a'
    have hc0 := hlp 0 (by omega)
    have hsp : sp' = none := by simpa [Addr.add] using World.cell?_spot hc0
    subst hsp
    have hadd : ∀ j, (⟨b, off, none⟩ : Addr).add j = ⟨b, off + j, none⟩ := fun j => by unfold Addr.add; split <;> simp_all
    refine ⟨b, off, rfl, ?_, fun j hj => ?_⟩
    · have := World.block_lt_of_cell? w _ hc0
      rw [hadd] at this
      exact this
    · have := hlp j (by omega)
      rw [hadd] at this
      exact this
end Go.Proofs.Ytbenkffjfjddgaa
