/-
  A slice of parts of names as an argument, opened; how long their texts are.
-/
import Derived.Test.YtionikhhdfkhdaaDoorOpenA
import Derived.Test.YtionikhhdfkhdaaDoorDnP
import Derived.SizedLaws
namespace Go.Proofs.YtionikhhdfkhdaaDoor
open Go.RowKit Go.ChangeShapes Go.WideShapes
set_option linter.unusedVariables false

theorem weightsAll_mem {H : Type} {P : Program} {e : TypeId} : ∀ {ds : List (DataW H)} {d : DataW H}, d ∈ ds → ∀ k ∈ d.weights P e, k ∈ DataW.weightsAll P e ds
  | x :: r, d, hd, k, hk => by
    simp only [DataW.weightsAll, List.mem_append]
    rcases List.mem_cons.1 hd with rfl | hd
    · exact .inl hk
    · exact .inr (weightsAll_mem hd k hk)
theorem cells_intA : Tryd.prog.cellsOf 3 = 1 := by kernel_rfl
theorem cells_strA : Tryd.prog.cellsOf 9 = 1 := by kernel_rfl
theorem att_openW {H : Type} {enc : TypeId × Value → H} {w : World} {base : Nat} {held : Bool} {n : Nat} {v0 v1 : Value} {x : DataW H × List MemPlace} (h : DataW.trod enc Tryd.prog w base (fun _ => true) held n 35 [v0, v1] = some x) :
    ∃ d : Att, v0 = .int .i64 d.k ∧ v1 = .string d.s ∧ ∃ k ∈ x.1.weights Tryd.prog 35, (bts d.s).length ≤ k := by
  obtain ⟨xs, k, _, hx, _, hlen, hf⟩ := DataW.trod_struct Tryd.underlying35 h
  obtain ⟨y0, y1, rfl⟩ : ∃ y0 y1, xs = [y0, y1] := by
    match xs, hlen with
    | [y0, y1], _ => exact ⟨y0, y1, rfl⟩
  have g0 := hf 0 _ rfl
  have g1 := hf 1 _ rfl
  simp [cells_intA, cells_strA] at g0 g1
  obtain ⟨i0, e0, _, _⟩ := DataW.trod_int Tryd.underlying3 g0
  obtain ⟨s, e1, e2, _⟩ := DataW.trod_string Tryd.underlying9 g1
  refine ⟨⟨i0, s⟩, by simpa using e0, by simpa using e1, s.data.toList.length, ?_, by simp [bts]⟩
  rw [hx]
  simp only [DataW.weights, Tryd.underlying35, List.map_cons, List.map_nil]
  refine DataW.weights_mem_each (j := 1) rfl rfl _ ?_
  rw [e2]
  simp [DataW.weights]
theorem rdA_openW {H : Type} {enc : TypeId × Value → H} {w : World} {base : Nat} {held : Bool} {fuel : Nat} {v : Value} {x : DataW H × List MemPlace} (h : DataW.trod enc Tryd.prog w base (fun _ => true) held fuel 22 v.cells.toList = some x) (hv : ∃ a n c, v = .slice a n c) :
    ∃ (A : Option Addr) (n c : Nat) (l : List Att), v = .slice A n c ∧ l.length = n ∧ RdA w w.heap.size A c l ∧ ∀ y ∈ l, ∃ k ∈ x.1.weights Tryd.prog 22, (bts y.s).length ≤ k := by
  obtain ⟨a, n, c, rfl⟩ := hv
  rcases Deep.open_slice Tryd.underlying22 h with ⟨hcs, _⟩ | ⟨a', len, cap, m, n', D, Pl, hcs, _, hl, hm, hmm, hx, hc⟩
  · simp [Value.cells] at hcs
    obtain ⟨rfl, rfl, rfl⟩ := hcs
    exact ⟨none, 0, 0, [], rfl, rfl, RdA.nil_ _ _ _ _ (by omega), fun y hy => by cases hy⟩
  · simp [Value.cells] at hcs
    obtain ⟨rfl, rfl, rfl⟩ := hcs
    have hlm : n ≤ m := by rw [hmm]; split <;> omega
    obtain ⟨l, hln, hlp⟩ := list_of (P := fun i (t : Att) => (w.cell? (a'.add (i * 2)) = some (.int .i64 t.k) ∧ w.cell? (a'.add (i * 2 + 1)) = some (.string t.s)) ∧ ∃ k ∈ (D i).weights Tryd.prog 35, (bts t.s).length ≤ k) n (fun i hi => by
      obtain ⟨cs', h1, h2⟩ := hc i (by omega)
      rw [cellsA] at h1
      obtain ⟨_, hlen, hcell⟩ := World.cells?_some h1
      match cs', hlen with
      | [v0, v1], _ =>
        obtain ⟨t, e0, e1, r1⟩ := att_openW h2
        have k0 := hcell 0 (by omega)
        have k1 := hcell 1 (by omega)
        rw [Deep.add_add] at k0 k1
        exact ⟨t, ⟨by rw [← e0]; simpa using k0, by rw [← e1]; simpa using k1⟩, r1⟩)
    have hwt : ∀ i, i < n → ∀ k ∈ (D i).weights Tryd.prog 35, k ∈ x.1.weights Tryd.prog 22 := fun i hi k hk => by
      rw [hx]
      simp only [DataW.weights, Tryd.underlying22, List.mem_cons, List.mem_append]
      exact .inr (.inl (weightsAll_mem (d := D i) (List.mem_map.2 ⟨i, by simpa using hi, rfl⟩) k hk))
    refine ⟨some a', n, c, l, rfl, hln, ⟨by omega, by unfold maxLen at hm; exact hm, fun hn => ?_⟩, fun y hy => ?_⟩
    · obtain ⟨b, off, sp'⟩ := a'
      have hc0 := (hlp 0 (by omega)).1.1
      have hsp : sp' = none := by simpa [Addr.add] using World.cell?_spot hc0
      subst hsp
      have hadd : ∀ j, (⟨b, off, none⟩ : Addr).add j = ⟨b, off + j, none⟩ := fun j => by unfold Addr.add; split <;> simp_all
      refine ⟨b, off, rfl, ?_, fun j hj => ?_⟩
      · have := World.block_lt_of_cell? w _ hc0
        rw [hadd] at this
        exact this
      · obtain ⟨⟨k0, k1⟩, _⟩ := hlp j (by omega)
        rw [hadd] at k0 k1
        exact ⟨k0, by rw [show off + j * 2 + 1 = off + (j * 2 + 1) by omega]; exact k1⟩
    · obtain ⟨j, hj, rfl⟩ := List.getElem_of_mem hy
      obtain ⟨_, k, hk, hle⟩ := hlp j (by omega)
      have e : l.getD j default = l[j] := by simp [List.getD, hj]
      rw [e] at hle
      exact ⟨k, hwt j (by omega) k hk, hle⟩
end Go.Proofs.YtionikhhdfkhdaaDoor
