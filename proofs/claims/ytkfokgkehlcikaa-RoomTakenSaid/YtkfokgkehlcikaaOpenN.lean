/-
  A slice of nodes, opened.
-/
import Derived.Test.YtkfokgkehlcikaaOpen
import Derived.Test.YtkfokgkehlcikaaOpenI
import Derived.Test.YtkfokgkehlcikaaRoom1
import Derived.Lib.SmallJoins
import Derived.Deep.Slices
import Derived.ChangeSlices
import Derived.ChangeArms
import Derived.WideShapes
namespace Go.Proofs.Ytkfokgkehlcikaa
open Go.RowKit Go.ChangeShapes Go.WideShapes
set_option linter.unusedVariables false

theorem list_of {α : Type} [Inhabited α] {P : Nat → α → Prop} : ∀ n, (∀ i, i < n → ∃ a, P i a) → ∃ l : List α, l.length = n ∧ ∀ i, i < n → P i (l.getD i default)
  | 0, _ => ⟨[], rfl, fun i h => absurd h (by omega)⟩
  | n + 1, h => by
    obtain ⟨l, hl, hp⟩ := list_of n (fun i hi => h i (by omega))
    obtain ⟨a, ha⟩ := h n (by omega)
    refine ⟨l ++ [a], by simp [hl], fun i hi => ?_⟩
    by_cases e : i = n
    · subst e
      have e2 : (l ++ [a]).getD i default = a := by simp [List.getD, ← hl]
      rw [e2]; exact ha
    · have e2 : (l ++ [a]).getD i default = l.getD i default := by simp [List.getD, List.getElem?_append_left (show i < l.length by omega)]
      rw [e2]; exact hp i (by omega)
theorem cells_node : Try.prog.cellsOf 25 = 3 := by kernel_rfl
theorem cells_int : Try.prog.cellsOf 3 = 1 := by kernel_rfl
theorem cells_string : Try.prog.cellsOf 9 = 1 := by kernel_rfl
theorem cells_ints : Try.prog.cellsOf 23 = 1 := by kernel_rfl
theorem slice_form {H : Type} {enc : TypeId × Value → H} {P : Program} {w : World} {base : Nat} {sp : Nat → Bool} {held : Bool} {fuel : Nat} {t e : TypeId} {v : Value} {x : DataW H × List MemPlace} (ht : P.underlying t = some (.slice e)) (h : DataW.trod enc P w base sp held fuel t [v] = some x) : ∃ a n c, v = .slice a n c := by
  rcases Deep.open_slice ht h with ⟨hcs, _⟩ | ⟨a, len, cap, m, n, D, Pl, hcs, _⟩
  · exact ⟨none, 0, 0, by simpa using hcs⟩
  · exact ⟨some a, len, cap, by simpa using hcs⟩
theorem rdI_open {H : Type} {enc : TypeId × Value → H} {w : World} {base : Nat} {held : Bool} {fuel : Nat} {a : Option Addr} {n c : Nat} {x : DataW H × List MemPlace} (h : DataW.trod enc Try.prog w base (fun _ => true) held fuel 23 (Value.slice a n c).cells.toList = some x) :
    ∃ l : List Int, l.length = n ∧ RdI .i64 w w.heap.size a c l := by
  rcases open_ints Try.underlying23 Try.underlying3 (by kernel_rfl) h with ⟨hcs, _⟩ | ⟨x, l, c', zs, hcs, _, hl, hm, hz, _, hcell, hwz⟩
  · simp [Value.cells] at hcs
    obtain ⟨rfl, rfl, rfl⟩ := hcs
    exact ⟨[], rfl, RdI.nil_ _ _ _⟩
  · simp [Value.cells] at hcs
    obtain ⟨rfl, rfl, rfl⟩ := hcs
    obtain ⟨b, h1, h2, h3⟩ := rdI_of_row (w := w) (a := some x) (len := n) (cap := c) (zs := zs) (.inr ⟨x, rfl, hl, hm, by simpa using hz, hcell, hwz⟩)
    exact ⟨b, h1, h2⟩
theorem node_open {H : Type} {enc : TypeId × Value → H} {w : World} {base : Nat} {held : Bool} {n : Nat} {v0 v1 v2 : Value} {x : DataW H × List MemPlace} (h : DataW.trod enc Try.prog w base (fun _ => true) held n 25 [v0, v1, v2] = some x) :
    ∃ d : Nd, v0 = .string d.name ∧ v1 = .int .i64 d.size ∧ v2 = .slice d.pa d.pl.length d.pc ∧ RdI .i64 w w.heap.size d.pa d.pc d.pl ∧ d.name.size ≤ 9223372036854775807 ∧ d.size ≤ 9223372036854775807 := by
  obtain ⟨xs, k, _, _, _, hlen, hf⟩ := DataW.trod_struct Try.underlying25 h
  obtain ⟨y0, y1, y2, rfl⟩ : ∃ y0 y1 y2, xs = [y0, y1, y2] := by
    match xs, hlen with
    | [y0, y1, y2], _ => exact ⟨y0, y1, y2, rfl⟩
  have g0 := hf 0 _ rfl
  have g1 := hf 1 _ rfl
  have g2 := hf 2 _ rfl
  simp [cells_int, cells_string, cells_ints] at g0 g1 g2
  obtain ⟨s0, e0, _, hs0⟩ := DataW.trod_string Try.underlying9 g0
  obtain ⟨i1, e1, _, hw1⟩ := DataW.trod_int Try.underlying3 g1
  obtain ⟨a2, n2, c2, rfl⟩ := slice_form Try.underlying23 g2
  obtain ⟨l2, hl2, hr2⟩ := rdI_open (a := a2) (n := n2) (c := c2) g2
  have hwb := bounds_i64 hw1
  unfold maxLen at hs0
  exact ⟨⟨s0, i1, a2, c2, l2⟩, by simpa using e0, by simpa using e1, by rw [← hl2], hr2, hs0, by show i1 ≤ 9223372036854775807; omega⟩
theorem nodes_open {H : Type} {enc : TypeId × Value → H} {w : World} {base : Nat} {held : Bool} {fuel : Nat} {v : Value} {x : DataW H × List MemPlace} (h : DataW.trod enc Try.prog w base (fun _ => true) held fuel 38 v.cells.toList = some x) (hv : ∃ a n c, v = .slice a n c) :
    ∃ (A : Option Addr) (n c : Nat) (l : List Nd), v = .slice A n c ∧ l.length = n ∧ RdN w w.heap.size A c l ∧ (∀ j, j < n → (l.getD j default).name.size ≤ 9223372036854775807 ∧ (l.getD j default).size ≤ 9223372036854775807) ∧ (n = 0 ∨ ∃ elems spare, x.1 = .slice elems spare ∧ elems.length = n) := by
  obtain ⟨a, n, c, rfl⟩ := hv
  rcases Deep.open_slice Try.underlying38 h with ⟨hcs, _⟩ | ⟨a', len, cap, m, n', D, Pl, hcs, _, hl, hm, hmm, hx, hc⟩
  · simp [Value.cells] at hcs
    obtain ⟨rfl, rfl, rfl⟩ := hcs
    exact ⟨none, 0, 0, [], rfl, rfl, ⟨by simp, by omega, fun j hj => by simp at hj, fun hn => by simp at hn⟩, fun j hj => by omega, .inl rfl⟩
  · simp [Value.cells] at hcs
    obtain ⟨rfl, rfl, rfl⟩ := hcs
    have hlm : n ≤ m := by rw [hmm]; split <;> omega
    obtain ⟨l, hln, hlp⟩ := list_of (P := fun i (t : Nd) => (w.cell? (a'.add (i * 3)) = some (.string t.name) ∧ w.cell? (a'.add (i * 3 + 1)) = some (.int .i64 t.size) ∧ w.cell? (a'.add (i * 3 + 2)) = some (.slice t.pa t.pl.length t.pc)) ∧ RdI .i64 w w.heap.size t.pa t.pc t.pl ∧ t.name.size ≤ 9223372036854775807 ∧ t.size ≤ 9223372036854775807) n (fun i hi => by
      obtain ⟨cs', h1, h2⟩ := hc i (by omega)
      rw [cells_node] at h1
      obtain ⟨_, hlen, hcell⟩ := World.cells?_some h1
      match cs', hlen with
      | [v0, v1, v2], _ =>
        obtain ⟨t, e0, e1, e2, r1, r2, r3⟩ := node_open h2
        have k0 := hcell 0 (by omega)
        have k1 := hcell 1 (by omega)
        have k2 := hcell 2 (by omega)
        rw [Deep.add_add] at k0 k1 k2
        exact ⟨t, ⟨by rw [← e0]; simpa using k0, by rw [← e1]; simpa using k1, by rw [← e2]; simpa using k2⟩, r1, r2, r3⟩)
    refine ⟨some a', n, c, l, rfl, hln, ⟨by omega, by unfold maxLen at hm; exact hm, fun j hj => (hlp j (by omega)).2.1, fun hn => ?_⟩, fun j hj => (hlp j hj).2.2, .inr ⟨_, _, by rw [hx], by simp⟩⟩
    obtain ⟨b, off, sp'⟩ := a'
    have hc0 := (hlp 0 (by omega)).1.1
    have hsp : sp' = none := by simpa [Addr.add] using World.cell?_spot hc0
    subst hsp
    have hadd : ∀ j, (⟨b, off, none⟩ : Addr).add j = ⟨b, off + j, none⟩ := fun j => by unfold Addr.add; split <;> simp_all
    refine ⟨b, off, rfl, ?_, fun j hj => ?_⟩
    · have := World.block_lt_of_cell? w _ hc0
      rw [hadd] at this
      exact this
    · obtain ⟨⟨k0, k1, k2⟩, _⟩ := hlp j (by omega)
      rw [hadd] at k0 k1 k2
      exact ⟨k0, by rw [show off + j * 3 + 1 = off + (j * 3 + 1) by omega]; exact k1, by rw [show off + j * 3 + 2 = off + (j * 3 + 2) by omega]; exact k2⟩
end Go.Proofs.Ytkfokgkehlcikaa
