/-
  Rows of bytes as an argument.
-/
import Derived.Test.YtkmbgbbmhpidkaaRead
namespace Go.Proofs.Ytkmbgbbmhpidkaa
open Go.RowKit
set_option linter.unusedVariables false
/-- A row of a call. -/
structure Rw where
  a : Option Addr
  c : Nat
  l : List Nat
instance : Inhabited Rw := ⟨⟨none, 0, []⟩⟩
/-- The slice '.slice A rs.length c' reads as these rows. -/
def RdR (w : World) (B : Nat) (A : Option Addr) (c : Nat) (rs : List Rw) : Prop :=
  rs.length ≤ c ∧ c ≤ 9223372036854775807 ∧ (∀ j, j < rs.length → Rd .u8 w B (rs.getD j default).a (rs.getD j default).c (rs.getD j default).l) ∧
    (0 < rs.length → ∃ b off, A = some ⟨b, off, none⟩ ∧ b < B ∧ ∀ j, j < rs.length → w.cell? ⟨b, off + j, none⟩ = some (.slice (rs.getD j default).a (rs.getD j default).l.length (rs.getD j default).c))
theorem RdR.under {w w' : World} {B : Nat} {A : Option Addr} {c : Nat} {rs : List Rw} (h : RdR w B A c rs) (hb : Below B w w') : RdR w' B A c rs :=
  ⟨h.1, h.2.1, fun j hj => (h.2.2.1 j hj).under hb, fun hn => by
    obtain ⟨b, off, e, hlt, hc⟩ := h.2.2.2 hn
    exact ⟨b, off, e, hlt, fun j hj => (hb.cell (p := ⟨b, off + j, none⟩) hlt).trans (hc j hj)⟩⟩
end Go.Proofs.Ytkmbgbbmhpidkaa
