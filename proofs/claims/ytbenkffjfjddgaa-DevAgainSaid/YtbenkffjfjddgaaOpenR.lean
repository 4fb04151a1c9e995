/-
  Rows of bytes, opened.
-/
import Derived.Test.YtbenkffjfjddgaaOpen1
import Derived.Test.YtbenkffjfjddgaaDevR
import Derived.Test.YtbenkffjfjddgaaDev10
import Derived.Deep.Matrix
namespace Go.Proofs.Ytbenkffjfjddgaa
open Go.RowKit Go.ChangeShapes Go.WideShapes
set_option linter.unusedVariables false

theorem rdR_open {H : Type} {enc : TypeId × Value → H} {w : World} {base : Nat} {held : Bool} {fuel : Nat} {v : Value} {x : DataW H × List MemPlace} (h : DataW.trod enc Try.prog w base (fun _ => true) held fuel 48 v.cells.toList = some x) (hv : ∃ a n c, v = .slice a n c) :
    ∃ (A : Option Addr) (n c : Nat) (rs : List Rw), v = .slice A n c ∧ rs.length = n ∧ RdR w w.heap.size A c rs ∧ ∀ j, ∀ x ∈ (rs.getD j default).l, x < 256 := by
  obtain ⟨a, n, c, rfl⟩ := hv
  rcases Deep.open_int_rows Try.underlying48 Try.underlying28 Try.underlying5 (by kernel_rfl) (by kernel_rfl) h with ⟨hcs, _⟩ | ⟨a', len, cap, A, L, C, Z, hcs, _, hl, hm, _, hc⟩
  · simp [Value.cells] at hcs
    obtain ⟨rfl, rfl, rfl⟩ := hcs
    exact ⟨none, 0, 0, [], rfl, rfl, ⟨by simp, by omega, fun j hj => by simp at hj, fun hn => by simp at hn⟩, fun j x hx => by simp [default] at hx⟩
  · simp [Value.cells] at hcs
    obtain ⟨rfl, rfl, rfl⟩ := hcs
    obtain ⟨l, hln, hlp⟩ := list_of (P := fun i (t : Rw) => w.cell? (a'.add i) = some (.slice t.a t.l.length t.c) ∧ Rd .u8 w w.heap.size t.a t.c t.l ∧ ∀ x ∈ t.l, x < 256) n (fun i hi => by
      obtain ⟨h0, h1, h2, h3, h4, h5, h6⟩ := hc i (by omega)
      obtain ⟨b, k1, k2, k3⟩ := rd_of_row wf_u8 (w := w) (a := A i) (len := L i) (cap := C i) (zs := Z i) (by
        cases hA : A i with
        | none =>
          have hC := h5 hA
          exact .inl ⟨rfl, by omega, hC, List.eq_nil_of_length_eq_zero (by omega)⟩
        | some x => exact .inr ⟨x, rfl, h1, h2, h3, fun j hj => (h6 x hA).2 j (by omega), h4⟩)
      exact ⟨⟨A i, C i, b⟩, by rw [h0, ← k1], k2, k3⟩)
    refine ⟨some a', n, c, l, rfl, hln, ⟨by omega, by unfold maxLen at hm; exact hm, fun j hj => (hlp j (by omega)).2.1, fun hn => ?_⟩, fun j => ?_⟩
    · obtain ⟨b, off, sp'⟩ := a'
      have hc0 := (hlp 0 (by omega)).1
      have hsp : sp' = none := by simpa [Addr.add] using World.cell?_spot hc0
      subst hsp
      have hadd : ∀ j, (⟨b, off, none⟩ : Addr).add j = ⟨b, off + j, none⟩ := fun j => by unfold Addr.add; split <;> simp_all
      refine ⟨b, off, rfl, ?_, fun j hj => ?_⟩
      · have := World.block_lt_of_cell? w _ hc0
        rw [hadd] at this
        exact this
      · have := (hlp j (by omega)).1
        rw [hadd] at this
        exact this
    · rcases Nat.lt_or_ge j n with hj | hj
      · exact (hlp j hj).2.2
      · intro x hx
        rw [show l.getD j default = default by rw [List.getD, List.getElem?_eq_none (by omega)]; rfl] at hx
        cases hx
end Go.Proofs.Ytbenkffjfjddgaa
