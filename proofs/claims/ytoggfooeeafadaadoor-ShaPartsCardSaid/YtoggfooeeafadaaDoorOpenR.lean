/-
  Rows of bytes, opened.
-/
import Derived.Test.YtoggfooeeafadaaDoorOpen6
import Derived.Test.YtoggfooeeafadaaDoorSha9
import Derived.Deep.Matrix
namespace Go.Proofs.YtoggfooeeafadaaDoor
open Go.RowKit Go.ChangeShapes Go.WideShapes
set_option linter.unusedVariables false

theorem list_of {α : Type} [Inhabited α] {P : Nat → α → Prop} : ∀ n, (∀ i, i < n → ∃ a, P i a) → ∃ l : List α, l.length = n ∧ ∀ i, i < n → P i (l.getD i default)
  | 0, _ => ⟨[], rfl, fun i h => absurd h (by omega)⟩
  | n + 1, h => by
    obtain ⟨l, hl, hp⟩ := list_of n (fun i hi => h i (by omega))
    obtain ⟨a, ha⟩ := h n (by omega)
    refine ⟨l ++ [a], by simp [hl], fun i hi => ?_⟩
    by_cases e : i = n
    · subst e
      have e2 : (l ++ [a]).getD i default = a := by simp [List.getD, ← hl]
      rw [e2]; exact ha
    · have e2 : (l ++ [a]).getD i default = l.getD i default := by simp [List.getD, List.getElem?_append_left (show i < l.length by omega)]
      rw [e2]; exact hp i (by omega)

theorem rdR_open {H : Type} {enc : TypeId × Value → H} {w : World} {base : Nat} {held : Bool} {fuel : Nat} {v : Value} {x : DataW H × List MemPlace} (h : DataW.trod enc Tryd.prog w base (fun _ => true) held fuel 31 v.cells.toList = some x) (hv : ∃ a n c, v = .slice a n c) :
    ∃ (A : Option Addr) (n c : Nat) (rs : List Rw), v = .slice A n c ∧ rs.length = n ∧ RdR w w.heap.size A c rs ∧ ∀ j, Oct6 (rs.getD j default).l := by
  obtain ⟨a, n, c, rfl⟩ := hv
  rcases Deep.open_int_rows Tryd.underlying31 Tryd.underlying22 Tryd.underlying5 (by kernel_rfl) (by kernel_rfl) h with ⟨hcs, _⟩ | ⟨a', len, cap, A, L, C, Z, hcs, _, hl, hm, _, hc⟩
  · simp [Value.cells] at hcs
    obtain ⟨rfl, rfl, rfl⟩ := hcs
    exact ⟨none, 0, 0, [], rfl, rfl, ⟨by simp, by omega, fun j hj => by simp at hj, fun hn => by simp at hn⟩, fun j i => by simp [default]⟩
  · simp [Value.cells] at hcs
    obtain ⟨rfl, rfl, rfl⟩ := hcs
    obtain ⟨l, hln, hlp⟩ := list_of (P := fun i (t : Rw) => w.cell? (a'.add i) = some (.slice t.a t.l.length t.c) ∧ Rd .u8 w w.heap.size t.a t.c t.l ∧ Oct6 t.l) n (fun i hi => by
      obtain ⟨h0, h1, h2, h3, h4, h5, h6⟩ := hc i (by omega)
      obtain ⟨b, k1, k2, k3⟩ := rd_of_row wf_u8 (w := w) (a := A i) (len := L i) (cap := C i) (zs := Z i) (by
        cases hA : A i with
        | none =>
          have hC := h5 hA
          exact .inl ⟨rfl, by omega, hC, List.eq_nil_of_length_eq_zero (by omega)⟩
        | some x => exact .inr ⟨x, rfl, h1, h2, h3, fun j hj => (h6 x hA).2 j (by omega), h4⟩)
      exact ⟨⟨A i, C i, b⟩, by rw [h0, ← k1], k2, oct_of6 k3⟩)
    refine ⟨some a', n, c, l, rfl, hln, ⟨by omega, by unfold maxLen at hm; exact hm, fun j hj => (hlp j (by omega)).2.1, fun hn => ?_⟩, fun j => ?_⟩
    · obtain ⟨b, off, sp'⟩ := a'
      have hc0 := (hlp 0 (by omega)).1
      have hsp : sp' = none := by simpa [Addr.add] using World.cell?_spot hc0
      subst hsp
      have hadd : ∀ j, (⟨b, off, none⟩ : Addr).add j = ⟨b, off + j, none⟩ := fun j => by unfold Addr.add; split <;> simp_all
      refine ⟨b, off, rfl, ?_, fun j hj => ?_⟩
      · have := World.block_lt_of_cell? w _ hc0
        rw [hadd] at this
        exact this
      · have := (hlp j (by omega)).1
        rw [hadd] at this
        exact this
    · rcases Nat.lt_or_ge j n with hj | hj
      · exact (hlp j hj).2.2
      · intro i
        rw [show l.getD j default = default by rw [List.getD, List.getElem?_eq_none (by omega)]; rfl]
        exact (by decide : 0 < 256)
end Go.Proofs.YtoggfooeeafadaaDoor
