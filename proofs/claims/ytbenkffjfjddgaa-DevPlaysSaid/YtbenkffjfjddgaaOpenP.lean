/-
  A slice of acts, opened.
-/
import Derived.Test.YtbenkffjfjddgaaOpen1
import Derived.Test.YtbenkffjfjddgaaRf10
import Derived.Lib.SmallJoins
import Derived.Deep.Slices
namespace Go.Proofs.Ytbenkffjfjddgaa
open Go.RowKit Go.ChangeShapes Go.WideShapes
set_option linter.unusedVariables false

theorem cells_act : Try.prog.cellsOf 33 = 5 := by kernel_rfl
theorem cells_crash : Try.prog.cellsOf 31 = 2 := by kernel_rfl
theorem cells_int : Try.prog.cellsOf 3 = 1 := by kernel_rfl
theorem cells_bytes : Try.prog.cellsOf 28 = 1 := by kernel_rfl
theorem cells_bools : Try.prog.cellsOf 29 = 1 := by kernel_rfl
theorem slice_form {H : Type} {enc : TypeId × Value → H} {P : Program} {w : World} {base : Nat} {sp : Nat → Bool} {held : Bool} {fuel : Nat} {t e : TypeId} {v : Value} {x : DataW H × List MemPlace} (ht : P.underlying t = some (.slice e)) (h : DataW.trod enc P w base sp held fuel t [v] = some x) : ∃ a n c, v = .slice a n c := by
  rcases Deep.open_slice ht h with ⟨hcs, _⟩ | ⟨a, len, cap, m, n, D, Pl, hcs, _⟩
  · exact ⟨none, 0, 0, by simpa using hcs⟩
  · exact ⟨some a, len, cap, by simpa using hcs⟩
theorem act_open {H : Type} {enc : TypeId × Value → H} {w : World} {base : Nat} {held : Bool} {n : Nat} {v0 v1 v2 v3 v4 : Value} {x : DataW H × List MemPlace} (h : DataW.trod enc Try.prog w base (fun _ => true) held n 33 [v0, v1, v2, v3, v4] = some x) :
    ∃ a : Ac, v0 = .int .i64 a.kind ∧ v1 = .int .i64 a.at_ ∧ v2 = .slice a.ba a.b.length a.bc ∧ v3 = .int .i64 a.ca ∧ v4 = .slice a.ka a.kl.length a.kc ∧ Rd .u8 w w.heap.size a.ba a.bc a.b ∧ Truths w a.ka a.kc a.kl ∧ ∀ x ∈ a.b, x < 256 := by
  obtain ⟨xs, k, _, _, _, hlen, hf⟩ := DataW.trod_struct Try.underlying33 h
  obtain ⟨y0, y1, y2, y3, rfl⟩ : ∃ y0 y1 y2 y3, xs = [y0, y1, y2, y3] := by
    match xs, hlen with
    | [y0, y1, y2, y3], _ => exact ⟨y0, y1, y2, y3, rfl⟩
  have g0 := hf 0 _ rfl
  have g1 := hf 1 _ rfl
  have g2 := hf 2 _ rfl
  have g3 := hf 3 _ rfl
  simp [cells_int, cells_bytes, cells_crash] at g0 g1 g2 g3
  obtain ⟨z0, z1, k', _, _, g4, g5⟩ := trod_struct2 Try.underlying31 g3
  simp [cells_int, cells_bools] at g4 g5
  obtain ⟨i0, e0, _, _⟩ := DataW.trod_int Try.underlying3 g0
  obtain ⟨i1, e1, _, _⟩ := DataW.trod_int Try.underlying3 g1
  obtain ⟨i3, e3, _, _⟩ := DataW.trod_int Try.underlying3 g4
  obtain ⟨a2, n2, c2, rfl⟩ := slice_form Try.underlying28 g2
  obtain ⟨a4, n4, c4, rfl⟩ := slice_form Try.underlying29 g5
  obtain ⟨A2, n2', c2', l2, e2, hl2, hr2, ho2⟩ := rd1_open (v := .slice a2 n2 c2) g2 ⟨_, _, _, rfl⟩
  obtain ⟨A4, n4', c4', l4, e4, hl4, hr4⟩ := truths_open (v := .slice a4 n4 c4) g5 ⟨_, _, _, rfl⟩
  injection e2 with e2a e2b e2c
  injection e4 with e4a e4b e4c
  subst e2a e2b e2c e4a e4b e4c
  exact ⟨⟨i0, i1, a2, c2, l2, i3, a4, c4, l4⟩, by simpa using e0, by simpa using e1, by rw [← hl2], by simpa using e3, by rw [← hl4], hr2, hr4, ho2⟩
theorem acts_open {H : Type} {enc : TypeId × Value → H} {w : World} {base : Nat} {held : Bool} {fuel : Nat} {v : Value} {x : DataW H × List MemPlace} (h : DataW.trod enc Try.prog w base (fun _ => true) held fuel 22 v.cells.toList = some x) (hv : ∃ a n c, v = .slice a n c) :
    ∃ (A : Option Addr) (n c : Nat) (l : List Ac), v = .slice A n c ∧ l.length = n ∧ RdA w A c l := by
  obtain ⟨a, n, c, rfl⟩ := hv
  rcases Deep.open_slice Try.underlying22 h with ⟨hcs, _⟩ | ⟨a', len, cap, m, n', D, Pl, hcs, _, hl, hm, hmm, _, hc⟩
  · simp [Value.cells] at hcs
    obtain ⟨rfl, rfl, rfl⟩ := hcs
    exact ⟨none, 0, 0, [], rfl, rfl, ⟨by simp, by omega, fun j hj => by simp at hj, fun hn => by simp at hn⟩⟩
  · simp [Value.cells] at hcs
    obtain ⟨rfl, rfl, rfl⟩ := hcs
    have hlm : n ≤ m := by rw [hmm]; split <;> omega
    obtain ⟨l, hln, hlp⟩ := list_of (P := fun i (t : Ac) => (w.cell? (a'.add (i * 5)) = some (.int .i64 t.kind) ∧ w.cell? (a'.add (i * 5 + 1)) = some (.int .i64 t.at_) ∧ w.cell? (a'.add (i * 5 + 2)) = some (.slice t.ba t.b.length t.bc) ∧ w.cell? (a'.add (i * 5 + 3)) = some (.int .i64 t.ca) ∧ w.cell? (a'.add (i * 5 + 4)) = some (.slice t.ka t.kl.length t.kc)) ∧ Rd .u8 w w.heap.size t.ba t.bc t.b ∧ Truths w t.ka t.kc t.kl ∧ ∀ x ∈ t.b, x < 256) n (fun i hi => by
      obtain ⟨cs', h1, h2⟩ := hc i (by omega)
      rw [cells_act] at h1
      obtain ⟨_, hlen, hcell⟩ := World.cells?_some h1
      match cs', hlen with
      | [v0, v1, v2, v3, v4], _ =>
        obtain ⟨t, e0, e1, e2, e3, e4, r1, r2, r3⟩ := act_open h2
        have k0 := hcell 0 (by omega)
        have k1 := hcell 1 (by omega)
        have k2 := hcell 2 (by omega)
        have k3 := hcell 3 (by omega)
        have k4 := hcell 4 (by omega)
        rw [Deep.add_add] at k0 k1 k2 k3 k4
        exact ⟨t, ⟨by rw [← e0]; simpa using k0, by rw [← e1]; simpa using k1, by rw [← e2]; simpa using k2, by rw [← e3]; simpa using k3, by rw [← e4]; simpa using k4⟩, r1, r2, r3⟩)
    refine ⟨some a', n, c, l, rfl, hln, by omega, by unfold maxLen at hm; exact hm, fun j hj => (hlp j (by omega)).2, fun hn => ?_⟩
    obtain ⟨b, off, sp'⟩ := a'
    have hc0 := (hlp 0 (by omega)).1.1
    have hsp : sp' = none := by simpa [Addr.add] using World.cell?_spot hc0
    subst hsp
    have hadd : ∀ j, (⟨b, off, none⟩ : Addr).add j = ⟨b, off + j, none⟩ := fun j => by unfold Addr.add; split <;> simp_all
    refine ⟨b, off, rfl, ?_, fun j hj => ?_⟩
    · have := World.block_lt_of_cell? w _ hc0
      rw [hadd] at this
      exact this
    · obtain ⟨⟨k0, k1, k2, k3, k4⟩, _⟩ := hlp j (by omega)
      rw [hadd] at k0 k1 k2 k3 k4
      exact ⟨k0, by rw [show off + j * 5 + 1 = off + (j * 5 + 1) by omega]; exact k1, by rw [show off + j * 5 + 2 = off + (j * 5 + 2) by omega]; exact k2, by rw [show off + j * 5 + 3 = off + (j * 5 + 3) by omega]; exact k3, by rw [show off + j * 5 + 4 = off + (j * 5 + 4) by omega]; exact k4⟩
end Go.Proofs.Ytbenkffjfjddgaa
