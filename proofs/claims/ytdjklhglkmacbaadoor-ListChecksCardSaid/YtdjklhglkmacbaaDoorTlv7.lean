/-
  A thing's bytes behind what is there: by the program.
-/
import Derived.Test.YtdjklhglkmacbaaDoorTlv6
namespace Go.Proofs.YtdjklhglkmacbaaDoor
open Go.RowKit
set_option linter.unusedVariables false
set_option linter.unusedSimpArgs false

/-- Only the slice's own block has turned, and it lies where it lay or in a new one. -/
def Grew (w w' : World) (A A' : Option Addr) : Prop := w.grownBy w' (blk_of A) ∧ ∀ g, blk_of A' = some g → blk_of A = some g ∨ w.heap.size ≤ g
theorem Grew.refl (w : World) (A : Option Addr) : Grew w w A A := ⟨World.grownBy.refl w _, fun g hg => .inl hg⟩
theorem Grew.trans {w w1 w2 : World} {A A1 A2 : Option Addr} (h : Grew w w1 A A1) (h' : Grew w1 w2 A1 A2) : Grew w w2 A A2 :=
  ⟨⟨h'.1.os.trans h.1.os, h'.1.tape.trans h.1.tape, h'.1.output.trans h.1.output, Nat.le_trans h.1.size h'.1.size, fun k hk hne => (h'.1.block k (Nat.lt_of_lt_of_le hk h.1.size) (fun e => by
    rcases h.2 k e.symm with h1 | h1
    · exact hne h1.symm
    · omega)).trans (h.1.block k hk hne)⟩, fun g hg => by
    rcases h'.2 g hg with h1 | h1
    · exact h.2 g h1
    · exact .inr (Nat.le_trans h.1.size h1)⟩
theorem Grew.of_below {w w' : World} {A : Option Addr} (h : Below w.heap.size w w') : Grew w w' A A := ⟨⟨h.os, h.tape, h.output, h.size, fun k hk _ => h.block k hk⟩, fun g hg => .inl hg⟩
theorem Grew.of_mine {w w' : World} {A A' : Option Addr} (h : w.grownBy w' (blk_of A)) (hat : blk_of A' = blk_of A ∨ blk_of A' = some w.heap.size) : Grew w w' A A' :=
  ⟨h, fun g hg => hat.elim (fun e => .inl (e ▸ hg)) fun e => .inr (by rw [e] at hg; injection hg with hg; omega)⟩
theorem Grew.below {w w' : World} {A A' : Option Addr} {B0 : Nat} (h : Grew w w' A A') (hB : B0 ≤ w.heap.size) (hA : ∀ g, blk_of A = some g → B0 ≤ g) : Below B0 w w' := below_blk h.1 hB hA
theorem Grew.holds {w w' : World} {A A' : Option Addr} {g : Nat} {t : TypeId} {cs : Array Value} (h : Grew w w' A A') (hh : Holds w g t cs) (hne : blk_of A ≠ some g) : Holds w' g t cs := hh.grown h.1 (fun e => hne e.symm)
theorem Grew.apart {w w' : World} {A A' : Option Addr} {g : Nat} (h : Grew w w' A A') (hg : g < w.heap.size) (hne : blk_of A ≠ some g) : blk_of A' ≠ some g := fun e => by
  rcases h.2 g e with h1 | h1
  · exact hne h1
  · omega

def RelU (w : World) (B0 : Nat) (cs : Array Value) (A : Option Addr) (p : List Nat) (l : List Tr) (n : Nat) (v i : Value) (wr : World) : Prop :=
  ∃ (k : Nat) (A' : Option Addr) (c' m : Nat), k ≤ n ∧ i = .int .i64 k ∧ v = .slice A' m c' ∧ Hid ((p ++ Tr.encs (l.take k)).length = m) ∧ Hid (Mine 5 wr B0 A' c' (p ++ Tr.encs (l.take k))) ∧ Hid (Grew w wr A A') ∧ Hid (Holds wr w.heap.size 31 cs) ∧ Hid (blk_of A' ≠ some w.heap.size)
end Go.Proofs.YtdjklhglkmacbaaDoor
