/-
  A number twice; a point, wide. Numbers out of the field. The inverse of a number of the field. A wide point, flat. The program's numbers of the field, as the field's.
-/
import Derived.Test.YtflfdglpljodbaaDoorRCvC
import Derived.Deep.RegionLaw
import Derived.Deep.RegionHeld3
import Derived.Deep.DrawnRows
import Derived.Test.YtflfdglpljodbaaDoorRCv9
import Derived.Test.YtflfdglpljodbaaDoorROwn
import Derived.Test.YtflfdglpljodbaaDoorRNatB
import Derived.Test.YtflfdglpljodbaaDoorRModM
import Derived.Test.YtflfdglpljodbaaDoorRLucM
namespace Go.Proofs.YtflfdglpljodbaaDoor
open Go.RowKit
set_option linter.unusedVariables false
set_option linter.unusedSimpArgs false
end Go.Proofs.YtflfdglpljodbaaDoor
namespace Go.Proofs.YtflfdglpljodbaaDoor
open Go.RowKit
set_option linter.unusedVariables false
set_option linter.unusedSimpArgs false
def hv : List Nat → List Nat
  | [] => []
  | d :: l => d % 4294967296 :: d / 4294967296 :: hv l
theorem grown_below9 {a w : World} {r : Option Nat} {B : Nat} (h : a.grownBy w r) (hr : ∀ g, r = some g → B ≤ g) (hs : B ≤ a.heap.size) : Below B a w :=
  ⟨h.os, h.tape, h.output, h.size, fun b hb => h.block b (by omega) (fun e => by have := hr b e.symm; omega)⟩
def RelV (w : World) (H : List Nat) (a i : Value) (wr : World) : Prop :=
  ∃ (k c : Nat) (A : Option Addr), k ≤ 4 ∧ i = .int .i64 (k : Int) ∧ a = .slice A (2 * k) c ∧ Hid (Own .u32 22 wr w.heap.size A c (H.take (2 * k)) ∧ Below w.heap.size w wr)
def lenOf : Value → Nat
  | .slice _ n _ => n
  | _ => 0
def RelW (V : World) (H : List Nat) (A : Option Addr) (c : Nat) (a : Value) (wr : World) : Prop :=
  ∃ n : Nat, n ≤ 8 ∧ a = .slice A n c ∧ wr = V ∧ Hid (val (H.take n) = val H)
def GotN (w : World) (v : Nat) (e : Ending) (w' : World) : Prop :=
  ∃ A c r, e = .returned (.slice A r.length c) ∧ NumIs r v ∧ Rd .u32 w' w'.heap.size A c r ∧ (∀ g, blockOf A = some g → w.heap.size ≤ g) ∧ Below w.heap.size w w'
end Go.Proofs.YtflfdglpljodbaaDoor
namespace Go.Proofs.YtflfdglpljodbaaDoor
open Go.RowKit
set_option linter.unusedVariables false
set_option linter.unusedSimpArgs false
end Go.Proofs.YtflfdglpljodbaaDoor
namespace Go.Proofs.YtflfdglpljodbaaDoor
open Go.RowKit
set_option linter.unusedVariables false
set_option linter.unusedSimpArgs false
theorem holds_aside3 {w : World} {g k : Nat} {t : TypeId} {cs : Array Value} (h : Holds w g t cs) (hne : g ≠ k) (p q r : Value) : Holds (((w.setCell ⟨k, 0, none⟩ p).setCell ⟨k, 1, none⟩ q).setCell ⟨k, 2, none⟩ r) g t cs :=
  Holds.aside (Holds.aside (Holds.aside h (p := ⟨k, 0, none⟩) hne p) (p := ⟨k, 1, none⟩) hne q) (p := ⟨k, 2, none⟩) hne r
theorem rd_aside {k : IntKind} {w : World} {B c : Nat} {A : Option Addr} {l : List Nat} (h : Rd k w B A c l) {g o : Nat} (hp : blockOf A ≠ some g) (v : Value) : Rd k (w.setCell ⟨g, o, none⟩ v) B A c l :=
  ⟨h.1, h.2.1, fun h0 => by
    obtain ⟨b, off, hA, hb, hc⟩ := h.2.2 h0
    refine ⟨b, off, hA, hb, fun j hj => (World.cell?_setCell_other _ _ _ _ ?_).trans (hc j hj)⟩
    intro e
    injection e with e1 _ _
    exact hp (by rw [hA, e1]; rfl)⟩
theorem rd_aside3 {k : IntKind} {w : World} {c : Nat} {A : Option Addr} {l : List Nat} (h : Rd k w w.heap.size A c l) {g : Nat} (hp : blockOf A ≠ some g) (p q r : Value) : Rd k (((w.setCell ⟨g, 0, none⟩ p).setCell ⟨g, 1, none⟩ q).setCell ⟨g, 2, none⟩ r) (((w.setCell ⟨g, 0, none⟩ p).setCell ⟨g, 1, none⟩ q).setCell ⟨g, 2, none⟩ r).heap.size A c l :=
  (rd_aside (rd_aside (rd_aside h hp p) hp q) hp r).more (by simp)
end Go.Proofs.YtflfdglpljodbaaDoor
namespace Go.Proofs.YtflfdglpljodbaaDoor
open Go.RowKit
set_option linter.unusedVariables false
set_option linter.unusedSimpArgs false
def en (f : Luc.F) : Nat := enc f.val
def fe (a : Nat) (h : a < cP) : Luc.F := ⟨a, h⟩
end Go.Proofs.YtflfdglpljodbaaDoor
