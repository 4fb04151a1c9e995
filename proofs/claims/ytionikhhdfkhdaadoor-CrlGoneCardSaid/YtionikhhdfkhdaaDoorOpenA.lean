/-
  A slice of named parts, opened.
-/
import Derived.Test.YtionikhhdfkhdaaDoorDn1
import Derived.Deep.SlicePairs
import Derived.ChangeArms
namespace Go.Proofs.YtionikhhdfkhdaaDoor
open Go.RowKit
set_option linter.unusedVariables false

theorem list_of {α : Type} [Inhabited α] {P : Nat → α → Prop} : ∀ n, (∀ i, i < n → ∃ a, P i a) → ∃ l : List α, l.length = n ∧ ∀ i, i < n → P i (l.getD i default)
  | 0, _ => ⟨[], rfl, fun i h => absurd h (by omega)⟩
  | n + 1, h => by
    obtain ⟨l, hl, hp⟩ := list_of n (fun i hi => h i (by omega))
    obtain ⟨a, ha⟩ := h n (by omega)
    refine ⟨l ++ [a], by simp [hl], fun i hi => ?_⟩
    by_cases e : i = n
    · subst e
      have e2 : (l ++ [a]).getD i default = a := by simp [List.getD, ← hl]
      rw [e2]; exact ha
    · have e2 : (l ++ [a]).getD i default = l.getD i default := by simp [List.getD, List.getElem?_append_left (show i < l.length by omega)]
      rw [e2]; exact hp i (by omega)

theorem cellsA : Tryd.prog.cellsOf 35 = 2 := by kernel_rfl

theorem rdA_open {H : Type} {enc : TypeId × Value → H} {w : World} {base : Nat} {sp : Nat → Bool} {held : Bool} {fuel : Nat} {v : Value} {x : DataW H × List MemPlace} (h : DataW.trod enc Tryd.prog w base sp held fuel 22 v.cells.toList = some x) (hv : ∃ a n c, v = .slice a n c) :
    ∃ (A : Option Addr) (n c : Nat) (l : List Att), v = .slice A n c ∧ l.length = n ∧ RdA w w.heap.size A c l := by
  obtain ⟨a, n, c, rfl⟩ := hv
  rcases Deep.open_slice_pairs Tryd.underlying22 Tryd.underlying35 cellsA rfl rfl (by kernel_rfl) (by kernel_rfl) h with ⟨hcs, _⟩ | ⟨a', len, cap, m, n', V0, V1, D0, D1, P0, P1, hcs, _, hl, hm, hmm, _, hc⟩
  · simp [Value.cells] at hcs
    obtain ⟨rfl, rfl, rfl⟩ := hcs
    exact ⟨none, 0, 0, [], rfl, rfl, RdA.nil_ _ _ _ _ (by omega)⟩
  · simp [Value.cells] at hcs
    obtain ⟨rfl, rfl, rfl⟩ := hcs
    have hlm : n ≤ m := by rw [hmm]; split <;> omega
    obtain ⟨l, hln, hlp⟩ := list_of (P := fun i (t : Att) => w.cell? (a'.add (i * 2)) = some (.int .i64 t.k) ∧ w.cell? (a'.add (i * 2 + 1)) = some (.string t.s)) n (fun i hi => by
      obtain ⟨h0, h1, g0, g1⟩ := hc i (by omega)
      obtain ⟨k, e0, _, _⟩ := DataW.trod_int Tryd.underlying3 g0
      obtain ⟨s, e1, _, _⟩ := DataW.trod_string Tryd.underlying9 g1
      obtain e0 : V0 i = .int .i64 k := by simpa using e0
      obtain e1 : V1 i = .string s := by simpa using e1
      exact ⟨⟨k, s⟩, by rw [h0, e0], by rw [h1, e1]⟩)
    refine ⟨some a', n, c, l, rfl, hln, by omega, by unfold maxLen at hm; exact hm, fun hn => ?_⟩
    obtain ⟨b, off, sp'⟩ := a'
    have hc0 := (hlp 0 (by omega)).1
    have hsp : sp' = none := by simpa [Addr.add] using World.cell?_spot hc0
    subst hsp
    have hadd : ∀ j, (⟨b, off, none⟩ : Addr).add j = ⟨b, off + j, none⟩ := fun j => by unfold Addr.add; split <;> simp_all
    refine ⟨b, off, rfl, ?_, fun j hj => ?_⟩
    · have := World.block_lt_of_cell? w _ hc0
      rw [hadd] at this
      exact this
    · have := hlp j (by omega)
      rw [hadd, hadd] at this
      exact ⟨this.1, by rw [show off + j * 2 + 1 = off + (j * 2 + 1) by omega]; exact this.2⟩
end Go.Proofs.YtionikhhdfkhdaaDoor
