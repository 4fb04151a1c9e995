/-
  Many sectors at once: rows of writes that grow.
-/
import Derived.Test.YtkmbgbbmhpidkaaJr13
import Derived.Test.YtkmbgbbmhpidkaaRf5
namespace Go.Proofs.Ytkmbgbbmhpidkaa
open Go.RowKit Go.Shelf
set_option linter.unusedVariables false
set_option linter.unusedSimpArgs false

theorem and63 (x : Int) : ∃ j : Nat, j < 64 ∧ Go.bits BinOp.and IntKind.i64 x 63 = (j : Int) := by
  have hlt : (BitVec.ofInt 64 x).toNat &&& 63 < 64 := Nat.lt_succ_of_le Nat.and_le_right
  refine ⟨(BitVec.ofInt 64 x).toNat &&& 63, hlt, ?_⟩
  show IntKind.i64.wrap ((BitVec.ofInt 64 x &&& BitVec.ofInt 64 63).toNat : Int) = _
  rw [BitVec.toNat_and, show (BitVec.ofInt 64 63).toNat = 63 from rfl]
  exact IntWalk.i64_in _ (by omega)
/-- A row of writes that grows, behind V; what it tells lies from B on. -/
structure Wrs (V W : World) (B : Nat) (A : Option Addr) (c : Nat) (l : List Wr) : Prop where
  own : OwnV 42 2 W A c l.length (l.flatMap wrCells)
  dat : ∀ x ∈ l, Rd .u8 W W.heap.size x.da x.dc x.d ∧ ∀ b o, x.da = some ⟨b, o, none⟩ → B ≤ b ∧ b < W.heap.size ∧ blockOf A ≠ some b
  blk : ∀ g, blockOf A = some g → V.heap.size ≤ g
  bel : Below V.heap.size V W
section
variable {V W W' : World} {B : Nat} {A : Option Addr} {c : Nat} {l : List Wr}
theorem Wrs.nil (V : World) (B : Nat) : Wrs V V B none 0 [] := ⟨OwnV.nil _ _ _, (fun x hx => by cases hx), (fun g hg => by simp [blockOf] at hg), Below.refl _ _⟩
theorem Wrs.under (h : Wrs V W B A c l) (hb : Below W.heap.size W W') : Wrs V W' B A c l :=
  ⟨h.own.keep fun g _ hg => hb.block g hg, fun x hx => ⟨((h.dat x hx).1.under hb).more hb.size, fun b o e => by
    have := (h.dat x hx).2 b o e
    exact ⟨this.1, Nat.lt_of_lt_of_le this.2.1 hb.size, this.2.2⟩⟩, h.blk, h.bel.trans (hb.mono h.bel.size)⟩
theorem Wrs.push {W3 W9 : World} {x : Wr} {g9 c9 : Nat} (h : Wrs V W3 B A c l) (hx : Rd .u8 W3 W3.heap.size x.da x.dc x.d ∧ ∀ b o, x.da = some ⟨b, o, none⟩ → B ≤ b ∧ b < W3.heap.size ∧ blockOf A ≠ some b)
    (ho : OwnV 42 2 W9 (some ⟨g9, 0, none⟩) c9 (l.length + 1) (l.flatMap wrCells ++ wrCells x)) (hgr : W3.grownBy W9 (blockOf A)) (hat : blockOf A = some g9 ∨ g9 = W3.heap.size) :
    Wrs V W9 B (some ⟨g9, 0, none⟩) c9 (l ++ [x]) := by
  have hk : ∀ b, b < W3.heap.size → blockOf A ≠ some b → W9.heap[b]? = W3.heap[b]? := fun b hb hne => hgr.block b hb fun e => hne e.symm
  have hd : ∀ y : Wr, (Rd .u8 W3 W3.heap.size y.da y.dc y.d ∧ ∀ b o, y.da = some ⟨b, o, none⟩ → B ≤ b ∧ b < W3.heap.size ∧ blockOf A ≠ some b) → Rd .u8 W9 W9.heap.size y.da y.dc y.d ∧ ∀ b o, y.da = some ⟨b, o, none⟩ → B ≤ b ∧ b < W9.heap.size ∧ blockOf (some (⟨g9, 0, none⟩ : Addr)) ≠ some b := fun y hy => by
    refine ⟨⟨hy.1.1, hy.1.2.1, fun hn => ?_⟩, fun b o e => ?_⟩
    · obtain ⟨b, off, e, hlt, hc⟩ := hy.1.2.2 hn
      exact ⟨b, off, e, Nat.lt_of_lt_of_le hlt hgr.size, fun j hj => (cell_same (hk b hlt ((hy.2 b off e).2.2)) _).trans (hc j hj)⟩
    · have := hy.2 b o e
      refine ⟨this.1, Nat.lt_of_lt_of_le this.2.1 hgr.size, fun e2 => ?_⟩
      have e3 : g9 = b := by simpa [blockOf] using e2
      subst e3
      rcases hat with h1 | h1
      · exact this.2.2 h1
      · omega
  refine ⟨by rw [List.length_append, List.flatMap_append]; simpa using ho, fun y hy => ?_, fun g hg => ?_, h.bel.trans ⟨hgr.os, hgr.tape, hgr.output, hgr.size, fun b hb => hk b (Nat.lt_of_lt_of_le hb h.bel.size) fun e => by have := h.blk b e; omega⟩⟩
  · rcases List.mem_append.1 hy with hy | hy
    · exact hd y (h.dat y hy)
    · rw [List.mem_singleton.1 hy]
      exact hd x hx
  · have e : g9 = g := by simpa [blockOf] using hg
    subst e
    rcases hat with h1 | h1
    · exact h.blk _ h1
    · have := h.bel.size
      omega
theorem Wrs.rd (h : Wrs V W B A c l) (hB : B ≤ V.heap.size) : RdWrG B A c l W := by
  have hm : ∀ j, j < l.length → l.getD j default ∈ l := fun j hj => by
    rw [show l.getD j default = l[j] by simp [List.getD, hj]]
    exact List.getElem_mem hj
  have hx : ∀ j, j < l.length → l[j]? = some (l.getD j default) := fun j hj => by simp [List.getD, hj]
  have hf := fun j (hj : j < l.length) i (hi : i < 2) => flat_at (f := wrCells) (m := 2) (L := l) (fun _ _ => rfl) (i := j) (j := i) (hx j hj) hi
  refine ⟨⟨h.own.le.1, h.own.le.2, fun j hj => (h.dat _ (hm j hj)).1, fun hn => ?_⟩, fun hn b o e => Nat.le_trans hB (h.blk b (by rw [e]; rfl)), fun j hj _ b o e => ((h.dat _ (hm j hj)).2 b o e).1⟩
  have h0 := hf 0 hn 0 (by omega)
  obtain ⟨g, hA, hlt, _, _⟩ := h.own.at_ (j := 0) (v := .int .i64 (l.getD 0 default).at_) (by rw [show (0 : Nat) = 2 * 0 + 0 from rfl, h0]; rfl)
  subst hA
  refine ⟨g, 0, rfl, hlt, fun j hj => ⟨?_, ?_⟩⟩
  · obtain ⟨g', e, _, hc, _⟩ := h.own.at_ (j := 2 * j + 0) (v := .int .i64 (l.getD j default).at_) (by rw [hf j hj 0 (by omega)]; rfl)
    injection e with e
    injection e with e
    subst e
    rw [show 0 + j * 2 = 2 * j + 0 by omega]
    exact hc
  · obtain ⟨g', e, _, hc, _⟩ := h.own.at_ (j := 2 * j + 1) (v := .slice (l.getD j default).da (l.getD j default).d.length (l.getD j default).dc) (by rw [hf j hj 1 (by omega)]; rfl)
    injection e with e
    injection e with e
    subst e
    rw [show 0 + j * 2 + 1 = 2 * j + 1 by omega]
    exact hc
end
end Go.Proofs.Ytkmbgbbmhpidkaa
