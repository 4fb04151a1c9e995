/-
  Extensions as an argument, opened; how long their bytes are.
-/
import Derived.Test.YtaemjgemkgiahaaOpenB
import Derived.Test.YtaemjgemkgiahaaEx1
import Derived.Lib.SmallJoins
import Derived.Deep.Slices
import Derived.SizedLaws
namespace Go.Proofs.Ytaemjgemkgiahaa
open Go.RowKit Go.ChangeShapes Go.WideShapes
set_option linter.unusedVariables false

theorem list_of {α : Type} [Inhabited α] {P : Nat → α → Prop} : ∀ n, (∀ i, i < n → ∃ a, P i a) → ∃ l : List α, l.length = n ∧ ∀ i, i < n → P i (l.getD i default)
  | 0, _ => ⟨[], rfl, fun i h => absurd h (by omega)⟩
  | n + 1, h => by
    obtain ⟨l, hl, hp⟩ := list_of n (fun i hi => h i (by omega))
    obtain ⟨a, ha⟩ := h n (by omega)
    refine ⟨l ++ [a], by simp [hl], fun i hi => ?_⟩
    by_cases e : i = n
    · subst e
      have e2 : (l ++ [a]).getD i default = a := by simp [List.getD, ← hl]
      rw [e2]; exact ha
    · have e2 : (l ++ [a]).getD i default = l.getD i default := by simp [List.getD, List.getElem?_append_left (show i < l.length by omega)]
      rw [e2]; exact hp i (by omega)
theorem slice_form {H : Type} {enc : TypeId × Value → H} {P : Program} {w : World} {base : Nat} {sp : Nat → Bool} {held : Bool} {fuel : Nat} {t e : TypeId} {v : Value} {x : DataW H × List MemPlace} (ht : P.underlying t = some (.slice e)) (h : DataW.trod enc P w base sp held fuel t [v] = some x) : ∃ a n c, v = .slice a n c := by
  rcases Deep.open_slice ht h with ⟨hcs, _⟩ | ⟨a, len, cap, m, n, D, Pl, hcs, _⟩
  · exact ⟨none, 0, 0, by simpa using hcs⟩
  · exact ⟨some a, len, cap, by simpa using hcs⟩
theorem weightsAll_mem {H : Type} {P : Program} {e : TypeId} : ∀ {ds : List (DataW H)} {d : DataW H}, d ∈ ds → ∀ k ∈ d.weights P e, k ∈ DataW.weightsAll P e ds
  | x :: r, d, hd, k, hk => by
    simp only [DataW.weightsAll, List.mem_append]
    rcases List.mem_cons.1 hd with rfl | hd
    · exact .inl hk
    · exact .inr (weightsAll_mem hd k hk)
theorem bytes_u8 : Try.prog.bytesOf 5 = 1 := by kernel_rfl
theorem cells_ext : Try.prog.cellsOf 26 = 3 := by kernel_rfl
theorem cells_bytes : Try.prog.cellsOf 23 = 1 := by kernel_rfl
theorem cells_bool : Try.prog.cellsOf 4 = 1 := by kernel_rfl
theorem bytes_openW {H : Type} {enc : TypeId × Value → H} {w : World} {base : Nat} {held : Bool} {fuel : Nat} {a : Option Addr} {n c : Nat} {x : DataW H × List MemPlace} (h : DataW.trod enc Try.prog w base (fun _ => true) held fuel 23 (Value.slice a n c).cells.toList = some x) :
    ∃ l : List Nat, l.length = n ∧ Rd .u8 w w.heap.size a c l ∧ (∀ x ∈ l, x < 256) ∧ (n = 0 ∨ ∃ k ∈ x.1.weights Try.prog 23, n ≤ k) := by
  rcases open_ints Try.underlying23 Try.underlying5 (by kernel_rfl) h with ⟨hcs, _⟩ | ⟨x, l, c', zs, hcs, _, hl, hm, hz, hx, hcell, hwz⟩
  · simp [Value.cells] at hcs
    obtain ⟨rfl, rfl, rfl⟩ := hcs
    exact ⟨[], rfl, Rd.nil_ _ _ _, (fun x hx => by cases hx), .inl rfl⟩
  · simp [Value.cells] at hcs
    obtain ⟨rfl, rfl, rfl⟩ := hcs
    obtain ⟨b, h1, h2, h3⟩ := rd_of_row wf_u8 (w := w) (a := some x) (len := n) (cap := c) (zs := zs) (.inr ⟨x, rfl, hl, hm, by simpa using hz, hcell, hwz⟩)
    refine ⟨b, h1, h2, h3, .inr ?_⟩
    rw [hx]
    refine ⟨_, by simp only [DataW.weights, Try.underlying23, List.mem_cons]; exact .inl rfl, ?_⟩
    rw [bytes_u8]
    have hz' : zs.length = c := by simpa using hz
    simp [lits]
    omega
theorem ext_open {H : Type} {enc : TypeId × Value → H} {w : World} {base : Nat} {held : Bool} {n : Nat} {v0 v1 v2 : Value} {x : DataW H × List MemPlace} (h : DataW.trod enc Try.prog w base (fun _ => true) held n 26 [v0, v1, v2] = some x) :
    ∃ d : Ex, v0 = .slice d.ia d.id.length d.ic ∧ v1 = .bool d.cr ∧ v2 = .slice d.va d.val.length d.vc ∧ ExP d w ∧ (d.id.length = 0 ∨ ∃ k ∈ x.1.weights Try.prog 26, d.id.length ≤ k) ∧ (d.val.length = 0 ∨ ∃ k ∈ x.1.weights Try.prog 26, d.val.length ≤ k) := by
  obtain ⟨xs, k, _, hx, _, hlen, hf⟩ := DataW.trod_struct Try.underlying26 h
  obtain ⟨y0, y1, y2, rfl⟩ : ∃ y0 y1 y2, xs = [y0, y1, y2] := by
    match xs, hlen with
    | [y0, y1, y2], _ => exact ⟨y0, y1, y2, rfl⟩
  have g0 := hf 0 _ rfl
  have g1 := hf 1 _ rfl
  have g2 := hf 2 _ rfl
  simp [cells_bytes, cells_bool] at g0 g1 g2
  obtain ⟨a0, n0, c0, rfl⟩ := slice_form Try.underlying23 g0
  obtain ⟨b1, e1, _⟩ := DataW.trod_bool Try.underlying4 g1
  obtain ⟨a2, n2, c2, rfl⟩ := slice_form Try.underlying23 g2
  obtain ⟨l0, hl0, hr0, ho0, hw0⟩ := bytes_openW (a := a0) (n := n0) (c := c0) g0
  obtain ⟨l2, hl2, hr2, ho2, hw2⟩ := bytes_openW (a := a2) (n := n2) (c := c2) g2
  have hwt : ∀ k, (k ∈ y0.1.weights Try.prog 23 ∨ k ∈ y2.1.weights Try.prog 23) → k ∈ x.1.weights Try.prog 26 := fun k hk => by
    rw [hx]
    simp only [DataW.weights, Try.underlying26, List.map_cons, List.map_nil]
    rcases hk with hk | hk
    · exact DataW.weights_mem_each (j := 0) rfl rfl k hk
    · exact DataW.weights_mem_each (j := 2) rfl rfl k hk
  refine ⟨⟨a0, c0, l0, b1, a2, c2, l2⟩, by rw [← hl0], by simpa using e1, by rw [← hl2], ⟨hr0, ho0, hr2, ho2⟩, ?_, ?_⟩
  · rcases hw0 with h0 | ⟨k, hk, hle⟩
    · exact .inl (by rw [hl0]; exact h0)
    · exact .inr ⟨k, hwt k (.inl hk), by rw [hl0]; exact hle⟩
  · rcases hw2 with h0 | ⟨k, hk, hle⟩
    · exact .inl (by rw [hl2]; exact h0)
    · exact .inr ⟨k, hwt k (.inr hk), by rw [hl2]; exact hle⟩
theorem exts_open {H : Type} {enc : TypeId × Value → H} {w : World} {base : Nat} {held : Bool} {fuel : Nat} {v : Value} {x : DataW H × List MemPlace} (h : DataW.trod enc Try.prog w base (fun _ => true) held fuel 22 v.cells.toList = some x) (hv : ∃ a n c, v = .slice a n c) :
    ∃ (A : Option Addr) (n c : Nat) (l : List Ex), v = .slice A n c ∧ l.length = n ∧ XP A c l w ∧ ∀ y ∈ l, (y.id.length = 0 ∨ ∃ k ∈ x.1.weights Try.prog 22, y.id.length ≤ k) ∧ (y.val.length = 0 ∨ ∃ k ∈ x.1.weights Try.prog 22, y.val.length ≤ k) := by
  obtain ⟨a, n, c, rfl⟩ := hv
  rcases Deep.open_slice Try.underlying22 h with ⟨hcs, _⟩ | ⟨a', len, cap, m, n', D, Pl, hcs, _, hl, hm, hmm, hx, hc⟩
  · simp [Value.cells] at hcs
    obtain ⟨rfl, rfl, rfl⟩ := hcs
    exact ⟨none, 0, 0, [], rfl, rfl, XP.none _, fun y hy => by cases hy⟩
  · simp [Value.cells] at hcs
    obtain ⟨rfl, rfl, rfl⟩ := hcs
    have hlm : n ≤ m := by rw [hmm]; split <;> omega
    obtain ⟨l, hln, hlp⟩ := list_of (P := fun i (t : Ex) => (w.cell? (a'.add (i * 3)) = some (.slice t.ia t.id.length t.ic) ∧ w.cell? (a'.add (i * 3 + 1)) = some (.bool t.cr) ∧ w.cell? (a'.add (i * 3 + 2)) = some (.slice t.va t.val.length t.vc)) ∧ ExP t w ∧ (t.id.length = 0 ∨ ∃ k ∈ (D i).weights Try.prog 26, t.id.length ≤ k) ∧ (t.val.length = 0 ∨ ∃ k ∈ (D i).weights Try.prog 26, t.val.length ≤ k)) n (fun i hi => by
      obtain ⟨cs', h1, h2⟩ := hc i (by omega)
      rw [cells_ext] at h1
      obtain ⟨_, hlen, hcell⟩ := World.cells?_some h1
      match cs', hlen with
      | [v0, v1, v2], _ =>
        obtain ⟨t, e0, e1, e2, r1, r2, r3⟩ := ext_open h2
        have k0 := hcell 0 (by omega)
        have k1 := hcell 1 (by omega)
        have k2 := hcell 2 (by omega)
        rw [Deep.add_add] at k0 k1 k2
        exact ⟨t, ⟨by rw [← e0]; simpa using k0, by rw [← e1]; simpa using k1, by rw [← e2]; simpa using k2⟩, r1, r2, r3⟩)
    have hwt : ∀ i, i < n → ∀ k ∈ (D i).weights Try.prog 26, k ∈ x.1.weights Try.prog 22 := fun i hi k hk => by
      rw [hx]
      simp only [DataW.weights, Try.underlying22, List.mem_cons, List.mem_append]
      exact .inr (.inl (weightsAll_mem (d := D i) (List.mem_map.2 ⟨i, by simpa using hi, rfl⟩) k hk))
    refine ⟨some a', n, c, l, rfl, hln, ⟨⟨by omega, by unfold maxLen at hm; exact hm, fun hn => ?_⟩, fun y hy => ?_⟩, fun y hy => ?_⟩
    · obtain ⟨b, off, sp'⟩ := a'
      have hc0 := (hlp 0 (by omega)).1.1
      have hsp : sp' = none := by simpa [Addr.add] using World.cell?_spot hc0
      subst hsp
      have hadd : ∀ j, (⟨b, off, none⟩ : Addr).add j = ⟨b, off + j, none⟩ := fun j => by unfold Addr.add; split <;> simp_all
      refine ⟨b, off, rfl, ?_, fun j hj => ?_⟩
      · have := World.block_lt_of_cell? w _ hc0
        rw [hadd] at this
        exact this
      · obtain ⟨⟨k0, k1, k2⟩, _⟩ := hlp j (by omega)
        rw [hadd] at k0 k1 k2
        exact ⟨k0, by rw [show off + j * 3 + 1 = off + (j * 3 + 1) by omega]; exact k1, by rw [show off + j * 3 + 2 = off + (j * 3 + 2) by omega]; exact k2⟩
    · obtain ⟨j, hj, rfl⟩ := List.getElem_of_mem hy
      have := (hlp j (by omega)).2.1
      simpa [List.getD, hj] using this
    · obtain ⟨j, hj, rfl⟩ := List.getElem_of_mem hy
      obtain ⟨_, _, g1, g2⟩ := hlp j (by omega)
      have e : l.getD j default = l[j] := by simp [List.getD, hj]
      rw [e] at g1 g2
      exact ⟨g1.imp id fun ⟨k, hk, hle⟩ => ⟨k, hwt j (by omega) k hk, hle⟩, g2.imp id fun ⟨k, hk, hle⟩ => ⟨k, hwt j (by omega) k hk, hle⟩⟩
end Go.Proofs.Ytaemjgemkgiahaa
